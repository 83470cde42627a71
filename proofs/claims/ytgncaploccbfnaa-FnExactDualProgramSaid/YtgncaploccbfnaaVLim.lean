/-
  Walks: fractions by one denominator, as far as they are within the limits: in the program.
-/
import Derived.Test.YtgncaploccbfnaaPFrW
import Derived.Test.YtgncaploccbfnaaVNum
namespace Go.Proofs.Ytgncaploccbfnaa.PW
open Go.RowKit Go.Proofs.Ytgncaploccbfnaa
open Go.Proofs.Ytgncaploccbfnaa.PM Go.Proofs.Ytgncaploccbfnaa.PX

/-- The fractions of numbers by d, and the code. -/
def limF (d : Int) (x : Int) : Int × Int := (FM.redN x d, FM.redD x d)
def limOk (d : Int) (L : List Int) : Bool := L.all fun x => FM.isF (FM.redN x d) (FM.redD x d)
def limOut (L : List Int) (d : Int) : List (Int × Int) × Int := if limOk d L = true then (L.map (limF d), 0) else ([], 3)
theorem limOut_ok {L : List Int} {d : Int} (h : limOk d L = true) : limOut L d = (L.map (limF d), 0) := by unfold limOut; rw [if_pos h]
theorem limOut_no {L : List Int} {d : Int} (h : limOk d L = false) : limOut L d = ([], 3) := by unfold limOut; rw [if_neg (by simp [h])]
theorem limOk_iff (d : Int) (L : List Int) : limOk d L = true ↔ ∀ i, i < L.length → FM.isF (FM.redN (L.getD i 0) d) (FM.redD (L.getD i 0) d) = true := by
  unfold limOk
  rw [List.all_eq_true]
  constructor
  · intro h i hi
    refine h _ ?_
    rw [show L.getD i 0 = L[i] by simp [hi]]
    exact List.getElem_mem hi
  · intro h x hx
    obtain ⟨j, hj, rfl⟩ := List.mem_iff_getElem.1 hx
    have := h j hj
    rwa [show L.getD j 0 = L[j] by simp [hj]] at this
theorem told_yes {n d : Int} (h : FM.isF (FM.redN n d) (FM.redD n d) = true) : FM.toldN n d = FM.redN n d ∧ FM.toldD n d = FM.redD n d ∧ FM.toldC n d = 0 := by
  unfold FM.toldN FM.toldD FM.toldC
  rw [if_pos h, if_pos h, if_pos h]
  exact ⟨rfl, rfl, rfl⟩
theorem told_no {n d : Int} (h : FM.isF (FM.redN n d) (FM.redD n d) = false) : FM.toldN n d = 0 ∧ FM.toldD n d = 0 ∧ FM.toldC n d = 3 := by
  unfold FM.toldN FM.toldD FM.toldC
  rw [if_neg (by simp [h]), if_neg (by simp [h]), if_neg (by simp [h])]
  exact ⟨rfl, rfl, rfl⟩

set_option maxRecDepth 100000 in
set_option maxHeartbeats 2000000 in
theorem limitedFracs_all (v : Value) (L : List Int) (d : Int) (w : World) (hv : Ints w v L) (hn1 : 1 ≤ L.length) (hn5 : L.length ≤ 5) (hd : d ≠ 0) (hb : ∀ j, j < L.length → -9223372036854775807 ≤ L.getD j 0 ∧ L.getD j 0 ≤ 9223372036854775807) (hbd : -9223372036854775807 ≤ d ∧ d ≤ 9223372036854775807) :
    Calls Try.prog 87 #[v, .int .i64 d] w fun e w' => (limOk d L = false ∧ e = .returned (.tuple #[.slice none 0 0, .int .i64 3]) ∧ Below w.heap.size w w') ∨
      (limOk d L = true ∧ ∃ g c, e = .returned (.tuple #[.slice (some ⟨g, 0, none⟩) L.length c, .int .i64 0]) ∧ FreshF w.heap.size w' (.slice (some ⟨g, 0, none⟩) L.length c) (L.map (limF d)) ∧ Below w.heap.size w w') := by
  obtain ⟨b, off, c, rfl, hblt, hce⟩ := ints_at hv rfl hn1
  have hfr := fun (j : Nat) (hj : j < L.length) (w' : World) => FW.limitedFrac_any (L.getD j 0) d w' (hb j hj).1 (hb j hj).2 hbd.1 hbd.2 hd
  have hmk := make_frac L.length hn5 hn1
  have hmd := freshF_made w L.length hn5
  obtain ⟨F, hF⟩ : ∃ F : Nat → Int × Int, F = fun j => limF d (L.getD j 0) := ⟨_, rfl⟩
  have hF0 : ∀ j, (F j).1 = FM.redN (L.getD j 0) d := fun j => by rw [hF]; rfl
  have hF1 : ∀ j, (F j).2 = FM.redD (L.getD j 0) d := fun j => by rw [hF]; rfl
  have hall : (List.range L.length).map F = L.map (limF d) := by
    rw [hF]
    apply List.ext_getElem
    · simp
    · intro i h1 h2
      have : i < L.length := by simpa using h1
      simp [this]
  have HALL := Lib.hid hall
  have HOK := Lib.hid (limOk_iff d L)
  obtain ⟨OK, hOK⟩ : ∃ OK, OK = limOk d L := ⟨_, rfl⟩
  rw [← hOK] at HOK ⊢
  rw [← fillF_zero L.length F] at hmd hmk
  have HFR := Lib.hid hfr
  have HCE := Lib.hid hce
  generalize (fcs (fillF L.length 0 F)).toArray = arr at *
  have HMD := Lib.hid hmd
  have HF0 := Lib.hid hF0
  have HF1 := Lib.hid hF1
  clear hv hce hfr hmd hb hbd hF hF0 hF1 hd hall hOK
  go_enter Try.func87, Try.ntmps87
  go_wp2_with fail
  go_loopw [7, 8, 9, 10, 16] (fun _ _ _ _ i wr => ∃ k : Nat, k ≤ L.length ∧ i = .int .i64 k ∧ FreshF w.heap.size wr (.slice (some ⟨w.heap.size, 0, none⟩) L.length L.length) (fillF L.length k F) ∧ Hid (∀ i, i < k → FM.isF (FM.redN (L.getD i 0) d) (FM.redD (L.getD i 0) d) = true) ∧ Below w.heap.size w wr) (fun _ _ _ _ i _ => L.length - (intOf i).toNat)
  case atStart => exact ⟨0, Nat.zero_le _, rfl, HMD.out, fun i hi => absurd hi (Nat.not_lt_zero _), (Below.refl _ _).alloc (Nat.le_refl _) _⟩
  case round =>
    obtain ⟨k, hk, rfl, hR, hgood, hB⟩ := hrel
    by_cases hlt : k < L.length
    · have t1 := (hB.cell (p := ⟨b, off + k, none⟩) hblt).trans (HCE.out k hlt)
      have HR := Lib.hid hR
      have HB := Lib.hid hB
      have HFK := Lib.hid (HFR.out k hlt)
      have hzz := hB.size
      have hzl : w.heap.size < wr.heap.size := by obtain ⟨g, c, hv, _, h2, _⟩ := hR; simp at hv; omega
      clear hR hB
      cases hf : FM.isF (FM.redN (L.getD k 0) d) (FM.redD (L.getD k 0) d)
      · obtain ⟨e1, e2, e3⟩ := told_no hf
        rw [e1, e2, e3] at HFK
        have HNO : Hid (OK = false) := by
          show OK = false
          rw [Bool.eq_false_iff]
          intro h
          have := HOK.out.1 h k hlt
          rw [hf] at this
          cases this
        clear e1 e2 e3 hf
        generalize L.getD k 0 = x at *
        go_wp2_with fail
        refine (HFK.out _).mono ?_
        rintro e w2 ⟨rfl, hb2⟩
        have hz2 := hb2.size
        have HBL := Lib.hid ((HB.out.trans (hb2.mono hzz)).alloc (by omega) (.cells #[.int .i64 0, .int .i64 0] 98))
        clear hb2
        go_wp2_with fail
        go_ret2
        exact .inl ⟨HNO.out, rfl, HBL.out⟩
      · obtain ⟨e1, e2, e3⟩ := told_yes hf
        rw [e1, e2, e3] at HFK
        have hnx : Hid (∀ i, i < k + 1 → FM.isF (FM.redN (L.getD i 0) d) (FM.redD (L.getD i 0) d) = true) := fun i hi => by
          by_cases e : i = k
          · subst e; exact hf
          · exact hgood.out i (by omega)
        clear e1 e2 e3 hf
        rw [← HF0.out k, ← HF1.out k] at HFK
        generalize L.getD k 0 = x at *
        go_wp2_with fail
        refine (HFK.out _).mono ?_
        rintro e w2 ⟨rfl, hb2⟩
        have hR2 := HR.out.below hb2
        have hl := fillF_length L.length k F
        have c0 := hR2.own.cell0 hl.symm hlt
        have c1 := hR2.own.cell1 hl.symm hlt
        have f0 := fun i => hR2.own.frozen hl.symm i
        have hz2 := hb2.size
        have hzl2 : w.heap.size < w2.heap.size := by omega
        have hzn2 : w.heap.size ≠ w2.heap.size := by omega
        have hst := (hR2.below ((Below.refl w2.heap.size w2).alloc (Nat.le_refl _) (.cells #[.int .i64 (F k).1, .int .i64 (F k).2] 98))).set hlt (F k).1 (F k).2
        rw [fillF_set] at hst
        have hbl := ((HB.out.trans (hb2.mono hzz)).alloc (by omega) (.cells #[.int .i64 (F k).1, .int .i64 (F k).2] 98)).setCell (p := ⟨w.heap.size, k * 2, none⟩) (Nat.le_refl _) (.int .i64 (F k).1) |>.setCell (p := ⟨w.heap.size, k * 2 + 1, none⟩) (Nat.le_refl _) (.int .i64 (F k).2)
        rw [World.setCell_alloc_past _ _ _ _ hzl2, World.setCell_alloc_past _ _ _ _ (by simpa using hzl2)] at hst hbl
        have HST := Lib.hid hst
        have HBL := Lib.hid hbl
        clear hst hbl hl hR2 hb2
        generalize (F k).1 = x0 at *
        generalize (F k).2 = y0 at *
        go_wp2_with fail
        go_roundw
        case rel => exact ⟨k + 1, by omega, by go_num, HST.out, hnx, HBL.out⟩
        case measure => simp [intOf]; omega
    · obtain rfl : k = L.length := by omega
      rw [fillF_all, HALL.out] at hR
      have HYES : Hid (OK = true) := HOK.out.2 hgood.out
      have HR := Lib.hid hR
      clear hR
      go_wp2_with fail
      go_ret2
      exact .inr ⟨HYES.out, _, _, rfl, HR.out, hB⟩
end Go.Proofs.Ytgncaploccbfnaa.PW
