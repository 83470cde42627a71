/-
  Walks: SlopesAt in the model.
-/
import Derived.Test.YtbfpneonmefndaaWSl2
namespace Go.Proofs.Ytbfpneonmefndaa.PW
open Go.RowKit Go.Proofs.Ytbfpneonmefndaa
open Go.Proofs.Ytbfpneonmefndaa.PM Go.Proofs.Ytbfpneonmefndaa.PX

theorem wtold_lim (n d : Int) (w : World) :
    Calls Try.prog 78 #[.agg #[.int .i64 (FM.redN n d), .int .i64 (FM.redD n d)]] w fun e w' => e = .returned (.tuple #[.agg #[.int .i64 (FM.toldN n d), .int .i64 (FM.toldD n d)], .int .i64 (FM.toldC n d)]) ∧ Below w.heap.size w w' :=
  FW.l01Told_any (FM.redN n d) (FM.redD n d) w
theorem wcell_two_after (w : World) (o : Obj) (a b : Value) (T : TypeId) : ∀ (j : Nat) (u : Value), [a, b][j]? = some u → ((w.alloc o).alloc (.cells #[a, b] T)).cell? (({ block := w.heap.size + 1, off := 0 } : Addr).add j) = some u := fun j u h => by
  have := cell_two_new (w.alloc o) a b T j u h
  rw [show (w.alloc o).heap.size = w.heap.size + 1 by simp] at this
  exact this

set_option maxRecDepth 100000 in
set_option maxHeartbeats 16000000 in
theorem specSlopesAt_any (d c a b x : Value) (D : List (List Int)) (C : List Int) (A : List (List Int)) (B : List Int) (X : List (Int × Int)) (w : World) (h1 : PM.Rows w d D) (h2 : Ints w c C) (h3 : PM.Rows w a A) (h4 : Ints w b B) (h5 : Frs w x X) (hs : szWn D C A B ≤ 1048576) :
    Calls Try.prog 41 #[.agg #[d, c, a, b], x] w (OutF w (slOut D C A B X)) := by
  have HNT := Lib.hid (fun (w' : World) (h : Below w.heap.size w w') => l09Small_any d c a b x D C A B X w' (h1.below h) (h2.below h) (h3.below h) (h4.below h) (h5.below h) hs)
  have HZ := Lib.hid (wf_zero (D := D) (C := C) (A := A) (B := B) (X := X) (Y := []) (m := 0))
  have HE := Lib.hid (slOut_err (D := D) (C := C) (A := A) (B := B) (X := X))
  have HN := Lib.hid (slOut_none (D := D) (C := C) (A := A) (B := B) (X := X))
  have HSO := Lib.hid (fun d => slOut_some (D := D) (C := C) (A := A) (B := B) (X := X) (d := d))
  generalize slOut D C A B X = OUT at *
  generalize wfCode D C A B X [] 0 = CODE at *
  have H1 := Lib.hid h1
  have H2 := Lib.hid h2
  obtain ⟨x1, y1, rfl, _⟩ := h1
  obtain ⟨x2, y2, rfl, _⟩ := h2
  obtain ⟨x3, y3, rfl, _⟩ := h3
  obtain ⟨x4, y4, rfl, _⟩ := h4
  obtain ⟨x5, y5, rfl, _⟩ := h5
  obtain ⟨W0, hW0⟩ : ∃ W0, W0 = w.alloc (.cells #[.slice x1 D.length y1, .slice x2 C.length y2, .slice x3 A.length y3, .slice x4 B.length y4] 54) := ⟨_, rfl⟩
  have hb0 : Below w.heap.size w W0 := by rw [hW0]; exact (Below.refl _ _).alloc (Nat.le_refl _) _
  have hz0 : w.heap.size < W0.heap.size := by rw [hW0]; simp
  have z0 : W0.cell? ⟨w.heap.size, 0, none⟩ = some (.slice x1 D.length y1) := by rw [hW0]; simp
  have z1 : W0.cell? ⟨w.heap.size, 1, none⟩ = some (.slice x2 C.length y2) := by rw [hW0]; simp
  have HW0 := Lib.hid hW0
  clear hW0 hs
  go_enter Try.func41, Try.ntmps41
  go_wp2_with fail
  rw [← HW0.out]
  refine (HNT.out _ hb0).mono ?_
  rintro e w1 (⟨hc, rfl, hb1⟩ | ⟨hc, hsm, rfl, hb1⟩ | ⟨hc, dd, g, cc, hsm, rfl, hF, hb1⟩)
  · have HW1 := Lib.hid (hb0.trans (hb1.mono hb0.size))
    have hcb : (CODE != 0) = true := by simp; omega
    have HO := Lib.hid (HE.out hc)
    clear hb1 z0 z1 hc hb0 hz0
    go_wp2_with fail
    go_ret2
    rw [HO.out]
    exact outF_nil HW1.out
  · have HW1 := Lib.hid (hb0.trans (hb1.mono hb0.size))
    have HO := Lib.hid (HN.out hc hsm)
    clear hb1 z0 z1 hc hsm hb0 hz0
    go_wp2_with fail
    go_ret2
    rw [HO.out]
    exact outF_nil HW1.out
  obtain ⟨hw, ⟨hfx, _⟩, hl, _⟩ := HZ.out hc
  obtain ⟨_, ⟨hd1, hd2, hd3⟩, hnb, _⟩ := smD_facts (frsB_fracs hfx) hsm
  obtain ⟨f1, f2, f3, f4, f5⟩ := isPB_facts (isPB_of hw)
  have HO := Lib.hid (HSO.out dd hc hsm)
  obtain ⟨n, hn⟩ : ∃ n, n = X.length := ⟨_, rfl⟩
  have hdn : D.length = n := by omega
  have hcn : C.length = n := by omega
  have hnb' := fun t (ht : t < n) => nums_bd hnb t (by omega)
  have hrb := rem_bd (L := X.map (numI dd)) (isPB_of hw) ⟨by omega, hd2⟩ (fun t ht => nums_bd hnb t (by omega))
  have hrt := fun i (hi : i < n) => remTo_bd (L := X.map (numI dd)) (isPB_of hw) ⟨by omega, hd2⟩ (fun t ht => nums_bd hnb t (by omega)) (i := i) (by omega)
  have hprod : ∀ i t, i < n → t < n → -20000000000000 ≤ wE D i t * (X.map (numI dd)).getD t 0 ∧ wE D i t * (X.map (numI dd)).getD t 0 ≤ 20000000000000 := fun i t hi ht => by
    have x := (f4 i (by omega)).2 t (by omega)
    have y := hnb' t ht
    exact PM.mul_bd (A := 20) (B := 1000000000000) x.1 x.2 y.1 y.2
  have hcd : ∀ i, i < n → -100000000000 ≤ C.getD i 0 * dd ∧ C.getD i 0 * dd ≤ 100000000000 := fun i hi => by
    have x := f5 i (by omega)
    exact PM.mul_bd (A := 100) (B := 1000000000) x.1 x.2 (by omega) hd2
  have hlen := remL_length D C (X.map (numI dd)) dd
  have hRj : ∀ j, j < n → (remL D C (X.map (numI dd)) dd).getD j 0 = remTo D C (X.map (numI dd)) dd j n := fun j hj => by
    unfold remL
    rw [hdn]
    simp [hj]
  have hT0 : ∀ i, remTo D C (X.map (numI dd)) dd i 0 = C.getD i 0 * dd := fun i => rfl
  have hT1 : ∀ i t, remTo D C (X.map (numI dd)) dd i (t + 1) = remTo D C (X.map (numI dd)) dd i t + wE D i t * (X.map (numI dd)).getD t 0 := fun i t => rfl
  obtain ⟨_, _, hvv, _, hz5, hoo⟩ := id hF
  have hg4 : g < w1.heap.size := by simp at hvv; omega
  have hnl : n = (X.map (numI dd)).length := by simp [hn]
  rw [← hn] at hoo
  have hce : ∀ j, j < n → w1.cell? ⟨g, j, none⟩ = some (.int .i64 ((X.map (numI dd)).getD j 0)) := fun j hj => by
    rw [own_cellN hoo hnl hj]
  have hw1 := hb0.trans (hb1.mono hb0.size)
  obtain ⟨bd, od, cd, hdv, hM⟩ := mat_at (H1.out) f1 (fun i hi => (f4 i hi).1)
  obtain ⟨bc, oc, cc2, hcv, hblc, hC⟩ := list_at (H2.out) (by omega)
  rw [hdv] at z0
  rw [hcv] at z1
  rw [hdn] at z0 hM
  rw [hcn] at z1
  have z0 := (hb1.cell (p := ⟨w.heap.size, 0, none⟩) hz0).trans z0
  have z1 := (hb1.cell (p := ⟨w.heap.size, 1, none⟩) hz0).trans z1
  have hz1 := Nat.lt_of_lt_of_le hz0 hb1.size
  generalize remL D C (X.map (numI dd)) dd = R at *
  obtain ⟨T, hTT⟩ : ∃ T : Nat → Nat → Int, T = fun i t => remTo D C (X.map (numI dd)) dd i t := ⟨_, rfl⟩
  have hT0 : ∀ i, T i 0 = C.getD i 0 * dd := fun i => by rw [hTT]; exact hT0 i
  have hT1 : ∀ i t, T i (t + 1) = T i t + wE D i t * (X.map (numI dd)).getD t 0 := fun i t => by rw [hTT]; exact hT1 i t
  have hTn : ∀ j, j < n → R.getD j 0 = T j n := fun j hj => by rw [hTT]; exact hRj j hj
  have hTb : ∀ i, i < n → ∀ t, t ≤ n → -(100000000000 + 20000000000000 * t) ≤ T i t ∧ T i t ≤ 100000000000 + 20000000000000 * t := fun i hi t ht => by rw [hTT]; exact hrt i hi t (by omega)
  obtain ⟨L, hL⟩ : ∃ L, L = X.map (numI dd) := ⟨_, rfl⟩
  rw [← hL] at hce hT1 hprod
  have HHM := Lib.hid (fun (wr : World) (h : Below w1.heap.size w1 wr) (i : Nat) (hi : i < n) => show ∃ r o dx, wr.cell? ⟨bd, od + i, none⟩ = some (.slice (some ⟨r, o, none⟩) n dx) ∧ ∀ j, j < n → wr.cell? ⟨r, o + j, none⟩ = some (.int .i64 (ent D i j)) from by
    obtain ⟨r, o, dx, hx⟩ := hM i hi
    exact ⟨r, o, dx, hx wr (hw1.trans (h.mono hw1.size))⟩)
  have HHC := Lib.hid (fun wr (h : Below w1.heap.size w1 wr) i (hi : i < n) => hC wr (hw1.trans (h.mono hw1.size)) i (by omega))
  have HHL := Lib.hid (fun wr (h : Below w1.heap.size w1 wr) j (hj : j < n) => (h.cell (p := ⟨g, j, none⟩) hg4).trans (hce j hj))
  have HHZ := Lib.hid (fun wr (h : Below w1.heap.size w1 wr) => And.intro ((h.cell (p := ⟨w.heap.size, 0, none⟩) hz1).trans z0) ((h.cell (p := ⟨w.heap.size, 1, none⟩) hz1).trans z1))
  have HT0 := Lib.hid hT0
  have HT1 := Lib.hid hT1
  have HTN := Lib.hid hTn
  have HTB := Lib.hid hTb
  have HPD := Lib.hid hprod
  have HCD := Lib.hid hcd
  have hfr := fun (j : Nat) (hj : j < n) (w' : World) => FW.l01Frac_any (R.getD j 0) dd w' (by have := hrb j (by omega); omega) (by have := hrb j (by omega); omega) (by omega) (by omega) (by omega)
  have HFR := Lib.hid hfr
  have HTD := Lib.hid (fun (j : Nat) (w' : World) => wtold_lim (R.getD j 0) dd w')
  obtain ⟨F, hF'⟩ : ∃ F : Nat → Int × Int, F = fun j => limF dd (R.getD j 0) := ⟨_, rfl⟩
  have hF0 : ∀ j, (F j).1 = FM.redN (R.getD j 0) dd := fun j => by rw [hF']; rfl
  have hF1 : ∀ j, (F j).2 = FM.redD (R.getD j 0) dd := fun j => by rw [hF']; rfl
  have hall : (List.range n).map F = R.map (limF dd) := by
    rw [hF', ← hdn, ← hlen]
    apply List.ext_getElem
    · simp
    · intro i h1 h2
      have : i < R.length := by simpa using h1
      simp [this]
  have HALL := Lib.hid hall
  have hok := limOk_iff dd R
  rw [hlen, hdn] at hok
  have HOK := Lib.hid hok
  have HF0 := Lib.hid hF0
  have HF1 := Lib.hid hF1
  have HRL := Lib.hid (show R.length = n by omega)
  have HW1 := Lib.hid hw1
  have hn5 : n ≤ 5 := by omega
  obtain ⟨j0, hj, hyy0, hyy1, hyy2⟩ := info_parts info_frac
  rw [← hn]
  have hcb0 : True := trivial
  clear hc hsm hF hb1 hw hfx hl hd1 hd2 hd3 hnb f1 f2 f3 f4 f5 hn hdn hcn hnb' hrb hrt hprod hcd hlen hRj hvv hz5 hoo hg4 hnl hce hw1 hdv hM hcv hblc hC z0 z1 hz1 hTT hT0 hT1 hTn hTb hL hfr hF' hF0 hF1 hall hok hb0 hz0 HZ HE HN HSO HNT HW0 hcb0
  go_wp2_with fail
  go_loopw [9, 10, 11, 12, 13, 14] (fun v i _ _ _ _ wr => ∃ k : Nat, k ≤ n ∧ i = .int .i64 k ∧ FreshF w1.heap.size wr v ((List.range k).map F) ∧ Hid (∀ i, i < k → FM.isF (FM.redN (R.getD i 0) dd) (FM.redD (R.getD i 0) dd) = true) ∧ Below w1.heap.size w1 wr) (fun _ i _ _ _ _ _ => n - (intOf i).toNat)
  case atStart => exact ⟨0, Nat.zero_le _, rfl, freshF_nil w1, fun i hi => absurd hi (Nat.not_lt_zero _), (Below.refl _ _).alloc (Nat.le_refl _) _⟩
  case round =>
    obtain ⟨k, hk, rfl, hO, hgood, hB⟩ := hrel
    obtain ⟨Wr, rfl⟩ : ∃ Wr, Wr = wr := ⟨_, rfl⟩
    have HO2 := Lib.hid hO
    have HB := Lib.hid hB
    by_cases hlt : k < n
    · obtain ⟨_, z1⟩ := HHZ.out Wr hB
      have c1 := HHC.out Wr hB k hlt
      have hcd := HCD.out k hlt
      have ht0 := HT0.out k
      clear hO hB
      generalize C.getD k 0 = ck at *
      go_wp2_with fail
      rw [← ht0]
      clear z1 c1 hcd ht0
      go_loopw [11, 12] (fun s t wr => ∃ l : Nat, l ≤ n ∧ t = .int .i64 l ∧ s = .int .i64 (T k l) ∧ Below Wr.heap.size Wr wr) (fun _ t _ => n - (intOf t).toNat)
      case atStart => exact ⟨0, Nat.zero_le _, rfl, rfl, Below.refl _ _⟩
      case round =>
        obtain ⟨l, hl, rfl, rfl, hBw⟩ := hrel
        have hBi := HB.out.trans (hBw.mono HB.out.size)
        by_cases hlt2 : l < n
        · obtain ⟨z0, _⟩ := HHZ.out wr hBi
          obtain ⟨r, o, dx, e1, e2a⟩ := HHM.out wr hBi k hlt
          have e2 := e2a l hlt2
          clear e2a
          have e3 := HHL.out wr hBi l hlt2
          rw [ent_wE] at e2
          have hp := HPD.out k l hlt hlt2
          have hb1 := HTB.out k hlt l hl
          have he := HT1.out k l
          have HBd := Lib.hid (fun q => below_drewN hBw q)
          generalize T k l = s at *
          generalize wE D k l = x at *
          generalize L.getD l 0 = y at *
          have hl5 : (l : Int) ≤ 5 := by omega
          have hss : -9000000000000000000 ≤ s + x * y ∧ s + x * y ≤ 9000000000000000000 := by omega
          have HE := Lib.hid he
          clear he hb1 hBi hBw
          go_wp2_with fail
          go_quiet (fail)
          go_wp2_with fail
          go_roundw
          case rel => exact ⟨l + 1, by omega, by go_num, by rw [HE.out], HBd.out _⟩
          case measure => simp [intOf]; omega
        · obtain rfl : l = n := by omega
          have hTk := HTN.out k hlt
          have HFK := Lib.hid (HFR.out k hlt)
          have HTK := Lib.hid (HTD.out k)
          have HBI := Lib.hid hBi
          have HBW := Lib.hid hBw
          have HO4 := Lib.hid (HO2.out.below hBw)
          obtain ⟨W3, rfl⟩ : ∃ W3, W3 = wr := ⟨_, rfl⟩
          clear hBi hBw
          cases hf : FM.isF (FM.redN (R.getD k 0) dd) (FM.redD (R.getD k 0) dd)
          · obtain ⟨e1, e2, e3⟩ := told_no hf
            rw [e1, e2, e3] at HTK
            have hno : limOk dd R = false := by
              rw [Bool.eq_false_iff]
              intro h
              have := HOK.out.1 h k hlt
              rw [hf] at this
              cases this
            have HNO := Lib.hid hno
            rw [hTk] at HFK HTK
            generalize T k l = tk at *
            clear e1 e2 e3 hf hno hTk
            go_wp2_with fail
            refine (HFK.out _).mono ?_
            rintro e w5 ⟨rfl, hb5⟩
            go_wp2_with fail
            refine (HTK.out _).mono ?_
            rintro e w6 ⟨rfl, hb6⟩
            have HBL := Lib.hid (HW1.out.trans ((HBI.out.trans ((hb5.trans (hb6.mono hb5.size)).mono HBI.out.size)).mono HW1.out.size))
            have hzz := HBL.out.size
            clear hb5 hb6
            go_wp2_with fail
            go_ret2
            rw [HO.out, limOut_no HNO.out]
            exact outF_nil (HBL.out.alloc hzz _)
          · obtain ⟨e1, e2, e3⟩ := told_yes hf
            rw [e1, e2, e3] at HTK
            have hnx : Hid (∀ i, i < k + 1 → FM.isF (FM.redN (R.getD i 0) dd) (FM.redD (R.getD i 0) dd) = true) := fun i hi => by
              by_cases e : i = k
              · subst e; exact hf
              · exact hgood.out i (by omega)
            clear e1 e2 e3 hf
            rw [← HF0.out k, ← HF1.out k] at HFK HTK
            rw [hTk] at HFK
            generalize T k l = tk at *
            clear hTk
            go_wp2_with fail
            refine (HFK.out _).mono ?_
            rintro e w5 ⟨rfl, hb5⟩
            go_wp2_with fail
            refine (HTK.out _).mono ?_
            rintro e w6 ⟨rfl, hb6⟩
            have HX := Lib.hid (snocF k F)
            have h56 := hb5.trans (hb6.mono hb5.size)
            have h57 := h56.trans ((Below.refl w6.heap.size w6).alloc (Nat.le_refl _) (.cells #[.int .i64 (F k).1, .int .i64 (F k).2] 62) |>.mono h56.size)
            have HO5 := Lib.hid (HO4.out.below h57)
            have HB5 := Lib.hid (HBI.out.trans (h57.mono HBI.out.size))
            have how := HO5.out.own
            unfold OwnF at how
            rw [rowF_length] at how
            have HOW := Lib.hid how
            clear how hb5 hb6 h56 h57 HO2 HO4 HB HFK HTK
            generalize (F k).1 = x at *
            generalize (F k).2 = y at *
            go_wp2_with (at_builtin; refine wpList_append_lies _ rfl _ _ 41 rfl 0 62 j0 (.agg #[.int .i64 0, .int .i64 0]) 2 16 Try.underlying41 hj hyy0 hyy1 hyy2 rfl (by decide) u9 k _ rfl ((HOW.out).alloc _) _ 1 _ [.int .i64 x, .int .i64 y] rfl rfl (wcell_two_after _ _ _ _ _) (by simp [Value.oneCell']) (by decide) (by unfold maxLen; omega) (by omega) (Nat.zero_le _) _ rfl ?_; intro g' cap w7 hown hgrow hat hgl)
            have hpu := HO5.out.push HB5.out.size (rowF_length k F).symm hown hat hgl
            have hgr := HO5.out.grow HB5.out HB5.out.size hgrow
            rw [← HX.out] at hpu
            have HPU := Lib.hid hpu
            have HGR := Lib.hid hgr
            clear hpu hgr hown hgrow hat hgl
            go_wp2_with fail
            go_roundw
            case rel => exact ⟨k + 1, by omega, by go_num, HPU.out, hnx, HGR.out⟩
            case measure => simp [intOf]; omega
    · obtain rfl : k = n := by omega
      rw [HALL.out] at hO
      have hyes : limOk dd R = true := HOK.out.2 hgood.out
      have HYES := Lib.hid hyes
      obtain ⟨g', c', rfl, _, _⟩ := hO.shape (n := R.length) (by simp)
      have HO3 := Lib.hid (hO.mono HW1.out.size)
      have HB3 := Lib.hid (HW1.out.trans (hB.mono HW1.out.size))
      clear hO hB hyes
      go_wp2_with fail
      go_ret2
      rw [HO.out, limOut_ok HYES.out]
      refine ⟨_, ?_, HO3.out.rng, HB3.out⟩
      rfl
end Go.Proofs.Ytbfpneonmefndaa.PW
