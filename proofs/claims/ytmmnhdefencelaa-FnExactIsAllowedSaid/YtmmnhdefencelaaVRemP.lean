/-
  Walks: RemainderOf in the model.
-/
import Derived.Test.YtmmnhdefencelaaVRemD
import Derived.Test.YtmmnhdefencelaaVNum
import Derived.Test.YtmmnhdefencelaaVRemS
import Derived.Test.YtmmnhdefencelaaPFrF
namespace Go.Proofs.Ytmmnhdefencelaa.PW
open Go.RowKit Go.Proofs.Ytmmnhdefencelaa
open Go.Proofs.Ytmmnhdefencelaa.PM Go.Proofs.Ytmmnhdefencelaa.PX

theorem l01Told_lim (n d : Int) (w : World) :
    Calls Try.prog 77 #[.agg #[.int .i64 (FM.redN n d), .int .i64 (FM.redD n d)]] w fun e w' => e = .returned (.tuple #[.agg #[.int .i64 (FM.toldN n d), .int .i64 (FM.toldD n d)], .int .i64 (FM.toldC n d)]) ∧ Below w.heap.size w w' :=
  FW.l01Told_any (FM.redN n d) (FM.redD n d) w

theorem cell_two_after (w : World) (o : Obj) (a b : Value) (T : TypeId) : ∀ (j : Nat) (u : Value), [a, b][j]? = some u → ((w.alloc o).alloc (.cells #[a, b] T)).cell? (({ block := w.heap.size + 1, off := 0 } : Addr).add j) = some u := fun j u h => by
  have := cell_two_new (w.alloc o) a b T j u h
  rw [show (w.alloc o).heap.size = w.heap.size + 1 by simp] at this
  exact this
set_option maxRecDepth 100000 in
set_option maxHeartbeats 16000000 in
theorem specRemainderOf_any (m q z : Value) (M : List (List Int)) (Q : List Int) (Z : List (Int × Int)) (w : World) (h1 : PM.Rows w m M) (h2 : Ints w q Q) (h3 : Frs w z Z) :
    Calls Try.prog 28 #[.agg #[m, q], z] w (OutF w (remOut M Q Z)) := by
  have HCK := Lib.hid (fun (w' : World) (h : Below w.heap.size w w') => l01Fracs_any m q z M Q Z w' (h1.below h) (h2.below h) (h3.below h))
  have H3 := Lib.hid h3
  have H1 := Lib.hid h1
  have H2 := Lib.hid h2
  obtain ⟨a1, c1, rfl, _⟩ := h1
  obtain ⟨a2, c2, rfl, _⟩ := h2
  rcases fc_cases M Q Z with hc | ⟨hc, hp, hf, hl⟩
  · rw [remOut_err (by omega)]
    generalize fcCode M Q Z = C at *
    have hC0 : ¬ C = 0 := by omega
    have hCb : (C != 0) = true := by simp; omega
    obtain ⟨a3, c3, rfl, _⟩ := h3
    clear hc
    go_enter Try.func28, Try.ntmps28
    go_wp2_with fail
    refine (HCK.out _ (by (repeat' (first | (with_reducible exact Below.refl _ _) | (with_reducible assumption) | (with_reducible refine Below.alloc ?_ ?_ _) | (with_reducible refine Below.drew ?_) | (with_reducible refine below_drewN ?_ _) | (with_reducible refine Below.setCell ?_ ?_ _) | (with_reducible refine Below.trans ?_ (Below.mono (by with_reducible assumption) ?_)) | (with_reducible exact Below.size (by with_reducible assumption)) | go_size)))).mono ?_; rintro e w1 ⟨rfl, hb1⟩
    have hw1 : Below w.heap.size w w1 := by (repeat' (first | (with_reducible exact Below.refl _ _) | (with_reducible assumption) | (with_reducible refine Below.alloc ?_ ?_ _) | (with_reducible refine Below.drew ?_) | (with_reducible refine below_drewN ?_ _) | (with_reducible refine Below.setCell ?_ ?_ _) | (with_reducible refine Below.trans ?_ (Below.mono (by with_reducible assumption) ?_)) | (with_reducible exact Below.size (by with_reducible assumption)) | go_size))
    go_wp2_with fail
    go_ret2
    exact outF_nil hw1
  rw [hc] at HCK
  have h5 := (isPB_facts hp).2.1
  have h51 := (isPB_facts hp).1
  have hfr := frsB_fracs hf
  have HCN := Lib.hid (fun (w' : World) (h : Below w.heap.size w w') => l01Common_any z Z w' (h3.below h) hfr (by omega) (by omega))
  obtain ⟨a3, c3, rfl, _⟩ := h3
  have HNONE := Lib.hid (fun h => remOut_none (M := M) (Q := Q) hc h)
  have HSOME := Lib.hid (fun d h => remOut_some (M := M) (Q := Q) (d := d) hc h)
  have HCS := Lib.hid (fun d h => comV_some (d := d) hfr h)
  generalize remOut M Q Z = OUT at *
  have HL := Lib.hid hl
  have HP := Lib.hid hp
  clear hc hf hfr hl hp
  obtain ⟨j0, hj, hyy0, hyy1, hyy2⟩ := info_parts info_frac
  obtain ⟨W0, hW0⟩ : ∃ W0, W0 = w.alloc (.cells #[.slice a1 M.length c1, .slice a2 Q.length c2] 27) := ⟨_, rfl⟩
  have hb0 : Below w.heap.size w W0 := by rw [hW0]; exact (Below.refl _ _).alloc (Nat.le_refl _) _
  have hz0 : w.heap.size < W0.heap.size := by rw [hW0]; simp
  have x0 : W0.cell? ⟨w.heap.size, 0, none⟩ = some (.slice a1 M.length c1) := by rw [hW0]; simp
  have x1 : W0.cell? ⟨w.heap.size, 1, none⟩ = some (.slice a2 Q.length c2) := by rw [hW0]; simp
  have HW0 := Lib.hid hW0
  have hle0 := hb0.size
  clear hW0
  go_enter Try.func28, Try.ntmps28
  go_wp2_with fail
  rw [← HW0.out]
  refine (HCK.out _ hb0).mono ?_; rintro e w1 ⟨rfl, hb1⟩
  have hw1 : Below w.heap.size w w1 := hb0.trans (hb1.mono hle0)
  have y0 := (hb1.cell (p := ⟨w.heap.size, 0, none⟩) hz0).trans x0
  have y1 := (hb1.cell (p := ⟨w.heap.size, 1, none⟩) hz0).trans x1
  have hz1 : w.heap.size < w1.heap.size := by have := hb1.size; omega
  clear HCK hb0 hb1 x0 x1 HW0 hz0 hle0
  go_wp2_with fail
  refine (HCN.out _ hw1).mono ?_
  intro e w2 hco
  unfold ComS at hco
  cases hcm : comOut Z with
  | none =>
    rw [hcm] at hco
    obtain ⟨rfl, hb2⟩ := hco
    have hw2 : Below w.heap.size w w2 := hw1.trans (hb2.mono hw1.size)
    have HO := Lib.hid (HNONE.out hcm)
    clear hcm hb2 y0 y1
    go_wp2_with fail
    go_ret2
    rw [HO.out]
    exact outF_nil hw2
  | some d =>
    rw [hcm] at hco
    obtain ⟨g4, c4, rfl, hf4, hb2⟩ := hco
    obtain ⟨_, hd, hnb⟩ := HCS.out d hcm
    have hw2 : Below w.heap.size w w2 := hw1.trans (hb2.mono hw1.size)
    have z0 := (hb2.cell (p := ⟨w.heap.size, 0, none⟩) hz1).trans y0
    have z1 := (hb2.cell (p := ⟨w.heap.size, 1, none⟩) hz1).trans y1
    have hl := HL.out
    have hp := HP.out
    have HRM := Lib.hid (l01Remainder_any _ _ _ M Q (Z.map (numI d)) d w2 (H1.out.below hw2) (H2.out.below hw2) (freshI_ints2 hf4 (nums_i64 hnb)) hp (by simp; omega) ⟨by omega, hd.2⟩ (fun t ht => nums_bd hnb t (by omega)))
    have HO := Lib.hid (HSOME.out d hcm)
    have hrb := rem_bd (L := Z.map (numI d)) hp ⟨by omega, hd.2⟩ (fun t ht => nums_bd hnb t (by omega))
    have hlen := remL_length M Q (Z.map (numI d)) d
    generalize remL M Q (Z.map (numI d)) d = R at *
    have hfr := fun (j : Nat) (hj : j < M.length) (w' : World) => FW.l01Frac_any (R.getD j 0) d w' (by have := hrb j (by omega); omega) (by have := hrb j (by omega); omega) (by omega) (by omega) (by omega)
    have HFR := Lib.hid hfr
    have HTD := Lib.hid (fun (j : Nat) (w' : World) => l01Told_lim (R.getD j 0) d w')
    have HLEN := Lib.hid hlen
    have HW2 := Lib.hid hw2
    obtain ⟨F, hF⟩ : ∃ F : Nat → Int × Int, F = fun j => limF d (R.getD j 0) := ⟨_, rfl⟩
    have hF0 : ∀ j, (F j).1 = FM.redN (R.getD j 0) d := fun j => by rw [hF]; rfl
    have hF1 : ∀ j, (F j).2 = FM.redD (R.getD j 0) d := fun j => by rw [hF]; rfl
    have hall : (List.range M.length).map F = R.map (limF d) := by
      rw [hF, ← hlen]
      apply List.ext_getElem
      · simp
      · intro i h1 h2
        have : i < R.length := by simpa using h1
        simp [this]
    have HALL := Lib.hid hall
    have hok := limOk_iff d R
    rw [hlen] at hok
    have HOK := Lib.hid hok
    have HF0 := Lib.hid hF0
    have HF1 := Lib.hid hF1
    clear hl hp hcm hb2 y0 y1 hf4 hnb hrb hw2 hw1 hfr hF hF0 hF1 hall hok hd hlen
    go_wp2_with fail
    refine HRM.out.mono ?_
    rintro e w3 ⟨g, c, rfl, hR, hb3⟩
    have HW3 := Lib.hid (HW2.out.trans (hb3.mono HW2.out.size))
    obtain ⟨_, _, hvv, _, hz5, hoo⟩ := id hR
    have hg3 : g < w3.heap.size := by simp at hvv; omega
    have hce : ∀ j, j < M.length → w3.cell? ⟨g, j, none⟩ = some (.int .i64 (R.getD j 0)) := fun j hj => by
      rw [own_cellN hoo HLEN.out.symm hj]
    have HCE := Lib.hid hce
    clear hR hb3 z0 z1 hvv hz5 hoo hce hz1
    go_wp2_with fail
    go_loopw [11, 12, 13, 14] (fun v i _ _ wr => ∃ k : Nat, k ≤ M.length ∧ i = .int .i64 k ∧ FreshF w3.heap.size wr v ((List.range k).map F) ∧ Hid (∀ i, i < k → FM.isF (FM.redN (R.getD i 0) d) (FM.redD (R.getD i 0) d) = true) ∧ Below w3.heap.size w3 wr) (fun _ i _ _ _ => M.length - (intOf i).toNat)
    case atStart => exact ⟨0, Nat.zero_le _, rfl, freshF_nil w3, fun i hi => absurd hi (Nat.not_lt_zero _), (Below.refl _ _).alloc (Nat.le_refl _) _⟩
    case round =>
      obtain ⟨k, hk, rfl, hO, hgood, hB⟩ := hrel
      by_cases hlt : k < M.length
      · have t1 := (hB.cell (p := ⟨g, k, none⟩) hg3).trans (HCE.out k hlt)
        have HFK := Lib.hid (HFR.out k hlt)
        have HTK := Lib.hid (HTD.out k)
        have HO2 := Lib.hid hO
        have HB := Lib.hid hB
        clear hO hB
        cases hf : FM.isF (FM.redN (R.getD k 0) d) (FM.redD (R.getD k 0) d)
        · obtain ⟨e1, e2, e3⟩ := told_no hf
          rw [e1, e2, e3] at HTK
          have hno : limOk d R = false := by
            rw [Bool.eq_false_iff]
            intro h
            have := HOK.out.1 h k hlt
            rw [hf] at this
            cases this
          have HNO := Lib.hid hno
          have HRN : Hid (∃ rn, rn = FM.redN (R.getD k 0) d) := ⟨_, rfl⟩
          clear e1 e2 e3 hf hno
          go_wp2_with fail
          refine (HFK.out _).mono ?_
          rintro e w5 ⟨rfl, hb5⟩
          go_wp2_with fail
          refine (HTK.out _).mono ?_
          rintro e w6 ⟨rfl, hb6⟩
          have HBL := Lib.hid (HW3.out.trans ((HB.out.trans ((hb5.trans (hb6.mono hb5.size)).mono HB.out.size)).mono HW3.out.size))
          have hzz := HBL.out.size
          clear hb5 hb6
          go_wp2_with fail
          go_ret2
          rw [HO.out, limOut_no HNO.out]
          exact outF_nil (HBL.out.alloc hzz _)
        · obtain ⟨e1, e2, e3⟩ := told_yes hf
          rw [e1, e2, e3] at HTK
          have hnx : Hid (∀ i, i < k + 1 → FM.isF (FM.redN (R.getD i 0) d) (FM.redD (R.getD i 0) d) = true) := fun i hi => by
            by_cases e : i = k
            · subst e; exact hf
            · exact hgood.out i (by omega)
          clear e1 e2 e3 hf
          rw [← HF0.out k, ← HF1.out k] at HFK HTK
          go_wp2_with fail
          refine (HFK.out _).mono ?_
          rintro e w5 ⟨rfl, hb5⟩
          go_wp2_with fail
          refine (HTK.out _).mono ?_
          rintro e w6 ⟨rfl, hb6⟩
          have HX := Lib.hid (snocF k F)
          have h56 := hb5.trans (hb6.mono hb5.size)
          have h57 := h56.trans ((Below.refl w6.heap.size w6).alloc (Nat.le_refl _) (.cells #[.int .i64 (F k).1, .int .i64 (F k).2] 51) |>.mono h56.size)
          have HO5 := Lib.hid (HO2.out.below h57)
          have HB5 := Lib.hid (HB.out.trans (h57.mono HB.out.size))
          have how := HO5.out.own
          unfold OwnF at how
          rw [rowF_length] at how
          have HOW := Lib.hid how
          clear how hb5 hb6 h56 h57 HO2 HB HFK HTK
          generalize (F k).1 = x at *
          generalize (F k).2 = y at *
          go_wp2_with (at_builtin; refine wpList_append_lies _ rfl _ _ 41 rfl 0 51 j0 (.agg #[.int .i64 0, .int .i64 0]) 2 16 Try.underlying41 hj hyy0 hyy1 hyy2 rfl (by decide) u11 k _ rfl ((HOW.out).alloc _) _ 1 _ [.int .i64 x, .int .i64 y] rfl rfl (cell_two_after _ _ _ _ _) (by simp [Value.oneCell']) (by decide) (by unfold maxLen; omega) (by omega) (Nat.zero_le _) _ rfl ?_; intro g' cap w7 hown hgrow hat hgl)
          have hpu := HO5.out.push HB5.out.size (rowF_length k F).symm hown hat hgl
          have hgr := HO5.out.grow HB5.out HB5.out.size hgrow
          rw [← HX.out] at hpu
          have HPU := Lib.hid hpu
          have HGR := Lib.hid hgr
          clear hpu hgr hown hgrow hat hgl
          go_wp2_with fail
          go_roundw
          case rel => exact ⟨k + 1, by omega, by go_num, HPU.out, hnx, HGR.out⟩
          case measure => simp [intOf]; omega
      · obtain rfl : k = M.length := by omega
        rw [HALL.out] at hO
        have hyes : limOk d R = true := HOK.out.2 hgood.out
        have HYES := Lib.hid hyes
        obtain ⟨g', c', rfl, _, _⟩ := hO.shape (n := R.length) (by simp)
        have HO2 := Lib.hid (hO.mono HW3.out.size)
        have HB := Lib.hid (HW3.out.trans (hB.mono HW3.out.size))
        clear hO hB hyes
        go_wp2_with fail
        go_ret2
        rw [HO.out, limOut_ok HYES.out]
        refine ⟨_, ?_, HO2.out.rng, HB.out⟩
        rfl
end Go.Proofs.Ytmmnhdefencelaa.PW
