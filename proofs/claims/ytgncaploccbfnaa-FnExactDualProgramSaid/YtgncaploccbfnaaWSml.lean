/-
  Walks: the code of a program with fractions, in the model; fractions of a program with their least common denominator, few and small, on both sides.
-/
import Derived.Test.YtgncaploccbfnaaWIp
import Derived.Test.YtgncaploccbfnaaVRemD
namespace Go.Proofs.Ytgncaploccbfnaa.PW
open Go.RowKit Go.Proofs.Ytgncaploccbfnaa
open Go.Proofs.Ytgncaploccbfnaa.PM Go.Proofs.Ytgncaploccbfnaa.PX

def wfCode (D : List (List Int)) (C : List Int) (A : List (List Int)) (B : List Int) (X Y : List (Int × Int)) (m : Nat) : Int :=
  if isWB D C A B = true then (if frsB X = true ∧ frsB Y = true then (if X.length = C.length ∧ Y.length = m then 0 else 2) else 1) else 1
theorem wf_no {D : List (List Int)} {C : List Int} {A : List (List Int)} {B : List Int} {X Y : List (Int × Int)} {m : Nat} (h : isWB D C A B = false) : wfCode D C A B X Y m = 1 := by unfold wfCode; rw [if_neg (by simp [h])]
theorem wf_bad {D : List (List Int)} {C : List Int} {A : List (List Int)} {B : List Int} {X Y : List (Int × Int)} {m : Nat} (hw : isWB D C A B = true) (h : ¬ (frsB X = true ∧ frsB Y = true)) : wfCode D C A B X Y m = 1 := by unfold wfCode; rw [if_pos hw, if_neg h]
theorem wf_len {D : List (List Int)} {C : List Int} {A : List (List Int)} {B : List Int} {X Y : List (Int × Int)} {m : Nat} (hw : isWB D C A B = true) (h : frsB X = true ∧ frsB Y = true) (hl : ¬ (X.length = C.length ∧ Y.length = m)) : wfCode D C A B X Y m = 2 := by unfold wfCode; rw [if_pos hw, if_pos h, if_neg hl]
theorem wf_ok {D : List (List Int)} {C : List Int} {A : List (List Int)} {B : List Int} {X Y : List (Int × Int)} {m : Nat} (hw : isWB D C A B = true) (h : frsB X = true ∧ frsB Y = true) (hl : X.length = C.length ∧ Y.length = m) : wfCode D C A B X Y m = 0 := by unfold wfCode; rw [if_pos hw, if_pos h, if_pos hl]
theorem wf_zero {D : List (List Int)} {C : List Int} {A : List (List Int)} {B : List Int} {X Y : List (Int × Int)} {m : Nat} (h : wfCode D C A B X Y m = 0) : isWB D C A B = true ∧ (frsB X = true ∧ frsB Y = true) ∧ X.length = C.length ∧ Y.length = m := by
  by_cases h1 : isWB D C A B = true
  · by_cases h2 : frsB X = true ∧ frsB Y = true
    · by_cases h3 : X.length = C.length ∧ Y.length = m
      · exact ⟨h1, h2, h3⟩
      · rw [wf_len h1 h2 h3] at h; cases h
    · rw [wf_bad h1 h2] at h; cases h
  · rw [wf_no (by simpa using h1)] at h; cases h
theorem wf_cases (D : List (List Int)) (C : List Int) (A : List (List Int)) (B : List Int) (X Y : List (Int × Int)) (m : Nat) : (wfCode D C A B X Y m = 1 ∨ wfCode D C A B X Y m = 2) ∨ wfCode D C A B X Y m = 0 := by
  by_cases h1 : isWB D C A B = true
  · by_cases h2 : frsB X = true ∧ frsB Y = true
    · by_cases h3 : X.length = C.length ∧ Y.length = m
      · exact .inr (wf_ok h1 h2 h3)
      · exact .inl (.inr (wf_len h1 h2 h3))
    · exact .inl (.inl (wf_bad h1 h2))
  · exact .inl (.inl (wf_no (by simpa using h1)))
theorem isPB_of {D : List (List Int)} {C : List Int} {A : List (List Int)} {B : List Int} (h : isWB D C A B = true) : isPB D C = true := by
  obtain ⟨⟨_, h2, _⟩, hm, _, _, hc, _⟩ := (isWB_iff D C A B).1 h
  exact (isPB_iff D C).2 ⟨hm, h2.symm, hc⟩

set_option maxRecDepth 100000 in
set_option maxHeartbeats 8000000 in
theorem l09Fracs_any (d c a b x y : Value) (D : List (List Int)) (C : List Int) (A : List (List Int)) (B : List Int) (X Y : List (Int × Int)) (m : Nat) (w : World) (h1 : PM.Rows w d D) (h2 : Ints w c C) (h3 : PM.Rows w a A) (h4 : Ints w b B) (h5 : Frs w x X) (h6 : Frs w y Y) (hs : szWn D C A B ≤ 1048576) :
    Calls Try.prog 101 #[.agg #[d, c, a, b], x, y, .int .i64 m] w fun e w' => e = .returned (.int .i64 (wfCode D C A B X Y m)) ∧ Below w.heap.size w w' := by
  have HIS := Lib.hid (fun (w' : World) (h : Below w.heap.size w w') => l09Is_any d c a b D C A B w' (h1.below h) (h2.below h) (h3.below h) (h4.below h) hs)
  obtain ⟨l1, l2, l3, l4⟩ := szWn_le hs
  obtain ⟨x1, y1, rfl, _⟩ := h1
  obtain ⟨x2, y2, rfl, _⟩ := h2
  obtain ⟨x3, y3, rfl, _⟩ := h3
  obtain ⟨x4, y4, rfl, _⟩ := h4
  obtain ⟨x5, y5, rfl, hl5, hce5⟩ := frs_shape h5
  obtain ⟨x6, y6, rfl, hl6, hce6⟩ := frs_shape h6
  have HC5 := Lib.hid hce5
  have HC6 := Lib.hid hce6
  have HFX := Lib.hid (frsB_iff X)
  have HFY := Lib.hid (frsB_iff Y)
  clear hs h5 h6 hce5 hce6 l1 l2 l3 l4
  cases hp : isWB D C A B
  · rw [hp] at HIS
    rw [wf_no hp]
    clear hp
    go_enter Try.func101, Try.ntmps101
    go_wp2_with fail
    refine (HIS.out _ (by (repeat' (first | (with_reducible exact Below.refl _ _) | (with_reducible assumption) | (with_reducible refine Below.alloc ?_ ?_ _) | (with_reducible refine Below.drew ?_) | (with_reducible refine below_drewN ?_ _) | (with_reducible refine Below.setCell ?_ ?_ _) | (with_reducible refine Below.trans ?_ (Below.mono (by with_reducible assumption) ?_)) | (with_reducible exact Below.size (by with_reducible assumption)) | go_size)))).mono ?_; rintro e w1 ⟨rfl, hb1⟩
    have hw1 : Below w.heap.size w w1 := by (repeat' (first | (with_reducible exact Below.refl _ _) | (with_reducible assumption) | (with_reducible refine Below.alloc ?_ ?_ _) | (with_reducible refine Below.drew ?_) | (with_reducible refine below_drewN ?_ _) | (with_reducible refine Below.setCell ?_ ?_ _) | (with_reducible refine Below.trans ?_ (Below.mono (by with_reducible assumption) ?_)) | (with_reducible exact Below.size (by with_reducible assumption)) | go_size))
    go_wp2_with fail
    go_ret
    exact ⟨rfl, hw1⟩
  rw [hp] at HIS
  have HBAD := Lib.hid (fun h => wf_bad (X := X) (Y := Y) (m := m) hp h)
  have HLEN := Lib.hid (fun h hl => wf_len (X := X) (Y := Y) (m := m) hp h hl)
  have HOKK := Lib.hid (fun h hl => wf_ok (X := X) (Y := Y) (m := m) hp h hl)
  generalize wfCode D C A B X Y m = CODE at *
  have hcl : C.length ≤ 5 := by
    obtain ⟨⟨h, _⟩, _⟩ := (isWB_iff D C A B).1 hp
    omega
  clear hp
  obtain ⟨W0, hW0⟩ : ∃ W0, W0 = w.alloc (.cells #[.slice x1 D.length y1, .slice x2 C.length y2, .slice x3 A.length y3, .slice x4 B.length y4] 54) := ⟨_, rfl⟩
  have hb0 : Below w.heap.size w W0 := by rw [hW0]; exact (Below.refl _ _).alloc (Nat.le_refl _) _
  have hz0 : w.heap.size < W0.heap.size := by rw [hW0]; simp
  have z1 : W0.cell? ⟨w.heap.size, 1, none⟩ = some (.slice x2 C.length y2) := by rw [hW0]; simp
  have HW0 := Lib.hid hW0
  clear hW0
  go_enter Try.func101, Try.ntmps101
  go_wp2_with fail
  rw [← HW0.out]
  refine (HIS.out _ hb0).mono ?_; rintro e w1 ⟨rfl, hb1⟩
  have hw1 : Below w.heap.size w w1 := hb0.trans (hb1.mono hb0.size)
  have z1 := (hb1.cell (p := ⟨w.heap.size, 1, none⟩) hz0).trans z1
  have hz1 : w.heap.size < w1.heap.size := Nat.lt_of_lt_of_le hz0 hb1.size
  have HW1 := Lib.hid hw1
  have HZ1 := Lib.hid z1
  clear hb1 hw1 HIS hb0 hz0 HW0 z1
  go_wp2_with fail
  go_loopw [9] (fun i wr => ∃ k : Nat, k ≤ X.length ∧ i = .int .i64 k ∧ Hid (∀ i, i < k → FM.isF (X.getD i (0, 0)).1 (X.getD i (0, 0)).2 = true) ∧ Below w1.heap.size w1 wr) (fun i _ => X.length - (intOf i).toNat)
  case atStart => exact ⟨0, Nat.zero_le _, rfl, fun i hi => absurd hi (Nat.not_lt_zero _), Below.refl _ _⟩
  case round =>
    obtain ⟨k, hk, rfl, hgood, hB⟩ := hrel
    have hzr := hB.size
    by_cases hlt : k < X.length
    · obtain ⟨b, off, rfl, hc⟩ := HC5.out k hlt
      obtain ⟨t0, t1⟩ := hc wr (HW1.out.trans (hB.mono HW1.out.size))
      have hbad : Hid (FM.isF (X.getD k (0, 0)).1 (X.getD k (0, 0)).2 = false → CODE = 1) := fun h => HBAD.out (by
        rintro ⟨c, _⟩
        have := HFX.out.1 c k hlt
        rw [h] at this
        cases this)
      have hnx : Hid (FM.isF (X.getD k (0, 0)).1 (X.getD k (0, 0)).2 = true → ∀ i, i < k + 1 → FM.isF (X.getD i (0, 0)).1 (X.getD i (0, 0)).2 = true) := fun h i hi => by
        by_cases e : i = k
        · subst e; exact h
        · exact hgood.out i (by omega)
      generalize (X.getD k (0, 0)).1 = p at *
      generalize (X.getD k (0, 0)).2 = q at *
      have HBd := Lib.hid hB
      clear hB hc
      cases hf : FM.isF p q
      · have HO := Lib.hid (hbad.out hf)
        have HF := Lib.hid hf
        clear hf hbad hnx
        go_wp2_with fail
        refine (FW.specIsFrac_is _ _ _ _ HF.out).mono ?_; rintro e w2 ⟨rfl, hb2⟩
        have HB2 := Lib.hid (HBd.out.trans (hb2.mono hzr))
        clear hb2
        go_wp2_with fail
        go_ret
        exact ⟨by rw [HO.out]; rfl, HW1.out.trans (HB2.out.mono HW1.out.size)⟩
      · have HX := Lib.hid (hnx.out hf)
        have HF := Lib.hid hf
        clear hf hbad hnx
        go_wp2_with fail
        refine (FW.specIsFrac_is _ _ _ _ HF.out).mono ?_; rintro e w2 ⟨rfl, hb2⟩
        have HB2 := Lib.hid (HBd.out.trans (hb2.mono hzr))
        clear hb2
        go_wp2_with fail
        go_roundw
        case rel => exact ⟨k + 1, by omega, by go_num, HX, HB2.out⟩
        case measure => simp [intOf]; omega
    · obtain rfl : k = X.length := by omega
      have HGX := Lib.hid (HFX.out.2 hgood.out)
      have HB := Lib.hid hB
      clear hB hgood
      obtain ⟨W2, rfl⟩ : ∃ W2, W2 = wr := ⟨_, rfl⟩
      go_wp2_with fail
      go_loopw [10] (fun i wr => ∃ k : Nat, k ≤ Y.length ∧ i = .int .i64 k ∧ Hid (∀ i, i < k → FM.isF (Y.getD i (0, 0)).1 (Y.getD i (0, 0)).2 = true) ∧ Below w1.heap.size w1 wr) (fun i _ => Y.length - (intOf i).toNat)
      case atStart => exact ⟨0, Nat.zero_le _, rfl, fun i hi => absurd hi (Nat.not_lt_zero _), HB.out⟩
      case round =>
        obtain ⟨k, hk, rfl, hgood, hB⟩ := hrel
        have hzr := hB.size
        by_cases hlt : k < Y.length
        · obtain ⟨b, off, rfl, hc⟩ := HC6.out k hlt
          obtain ⟨t0, t1⟩ := hc wr (HW1.out.trans (hB.mono HW1.out.size))
          have hbad : Hid (FM.isF (Y.getD k (0, 0)).1 (Y.getD k (0, 0)).2 = false → CODE = 1) := fun h => HBAD.out (by
            rintro ⟨_, c⟩
            have := HFY.out.1 c k hlt
            rw [h] at this
            cases this)
          have hnx : Hid (FM.isF (Y.getD k (0, 0)).1 (Y.getD k (0, 0)).2 = true → ∀ i, i < k + 1 → FM.isF (Y.getD i (0, 0)).1 (Y.getD i (0, 0)).2 = true) := fun h i hi => by
            by_cases e : i = k
            · subst e; exact h
            · exact hgood.out i (by omega)
          generalize (Y.getD k (0, 0)).1 = p at *
          generalize (Y.getD k (0, 0)).2 = q at *
          have HBd := Lib.hid hB
          clear hB hc
          cases hf : FM.isF p q
          · have HO := Lib.hid (hbad.out hf)
            have HF := Lib.hid hf
            clear hf hbad hnx
            go_wp2_with fail
            refine (FW.specIsFrac_is _ _ _ _ HF.out).mono ?_; rintro e w2 ⟨rfl, hb2⟩
            have HB2 := Lib.hid (HBd.out.trans (hb2.mono hzr))
            clear hb2
            go_wp2_with fail
            go_ret
            exact ⟨by rw [HO.out]; rfl, HW1.out.trans (HB2.out.mono HW1.out.size)⟩
          · have HX := Lib.hid (hnx.out hf)
            have HF := Lib.hid hf
            clear hf hbad hnx
            go_wp2_with fail
            refine (FW.specIsFrac_is _ _ _ _ HF.out).mono ?_; rintro e w2 ⟨rfl, hb2⟩
            have HB2 := Lib.hid (HBd.out.trans (hb2.mono hzr))
            clear hb2
            go_wp2_with fail
            go_roundw
            case rel => exact ⟨k + 1, by omega, by go_num, HX, HB2.out⟩
            case measure => simp [intOf]; omega
        · obtain rfl : k = Y.length := by omega
          have HGY := Lib.hid (HFY.out.2 hgood.out)
          have z1 := (hB.cell (p := ⟨w.heap.size, 1, none⟩) hz1).trans HZ1.out
          have HB := Lib.hid (HW1.out.trans (hB.mono HW1.out.size))
          clear hB hgood
          by_cases q1 : X.length = C.length
          · by_cases q2 : Y.length = m
            · have HO := Lib.hid (HOKK.out ⟨HGX.out, HGY.out⟩ ⟨q1, q2⟩)
              have n1 : ((X.length : Int) != (C.length : Int)) = false := by simp [q1]
              have n2 : ((Y.length : Int) != (m : Int)) = false := by simp [q2]
              clear q1 q2
              go_wp2_with fail
              go_ret
              exact ⟨by rw [HO.out]; rfl, HB.out⟩
            · have HO := Lib.hid (HLEN.out ⟨HGX.out, HGY.out⟩ (fun c => q2 c.2))
              have n1 : ((X.length : Int) != (C.length : Int)) = false := by simp [q1]
              have n2 : ((Y.length : Int) != (m : Int)) = true := by simp; omega
              clear q1 q2
              go_wp2_with fail
              go_ret
              exact ⟨by rw [HO.out]; rfl, HB.out⟩
          · have HO := Lib.hid (HLEN.out ⟨HGX.out, HGY.out⟩ (fun c => q1 c.1))
            have n1 : ((X.length : Int) != (C.length : Int)) = true := by simp; omega
            clear q1
            go_wp2_with fail
            go_ret
            exact ⟨by rw [HO.out]; rfl, HB.out⟩

/-- The least common denominator, if it and the numbers that it gives are within limits. -/
def smD (X : List (Int × Int)) (mn md : Int) : Option Int := match comOut X with
  | none => none
  | some d => if d ≤ md ∧ wit mn (X.map (numI d)) = true then some d else none
theorem smD_none {X : List (Int × Int)} {mn md : Int} (h : comOut X = none) : smD X mn md = none := by unfold smD; rw [h]
theorem smD_some {X : List (Int × Int)} {mn md d : Int} (h : comOut X = some d) (h1 : d ≤ md) (h2 : wit mn (X.map (numI d)) = true) : smD X mn md = some d := by unfold smD; rw [h]; exact if_pos ⟨h1, h2⟩
theorem smD_no {X : List (Int × Int)} {mn md d : Int} (h : comOut X = some d) (h1 : ¬ (d ≤ md ∧ wit mn (X.map (numI d)) = true)) : smD X mn md = none := by unfold smD; rw [h]; exact if_neg h1
theorem smD_facts {X : List (Int × Int)} {mn md d : Int} (hf : fracs X) (h : smD X mn md = some d) : comOut X = some d ∧ (1 ≤ d ∧ d ≤ 1000000000 ∧ d ≤ md) ∧ (∀ x ∈ X, -1000000000000 ≤ numI d x ∧ numI d x ≤ 1000000000000) ∧ ∀ t, t < X.length → -mn ≤ (X.map (numI d)).getD t 0 ∧ (X.map (numI d)).getD t 0 ≤ mn := by
  unfold smD at h
  cases hc : comOut X with
  | none => rw [hc] at h; cases h
  | some e =>
    rw [hc] at h
    dsimp only at h
    split at h
    · rename_i hh
      obtain rfl := Option.some.inj h
      obtain ⟨_, hd, hb⟩ := comV_some hf hc
      exact ⟨rfl, ⟨hd.1, hd.2, hh.1⟩, hb, fun t ht => (wit_iff _ _).1 hh.2 t (by simpa using ht)⟩
    · cases h
/-- What is left by the functions that write fractions with their least common denominator. -/
def NtOut (w : World) (code : Int) (sm : Option Int) (X : List (Int × Int)) (e : Ending) (w' : World) : Prop :=
  (code ≠ 0 ∧ e = .returned (.tuple #[.slice none 0 0, .int .i64 0, .int .i64 code]) ∧ Below w.heap.size w w') ∨
  (code = 0 ∧ sm = none ∧ e = .returned (.tuple #[.slice none 0 0, .int .i64 0, .int .i64 3]) ∧ Below w.heap.size w w') ∨
  (code = 0 ∧ ∃ d g c, sm = some d ∧ e = .returned (.tuple #[.slice (some ⟨g, 0, none⟩) X.length c, .int .i64 d, .int .i64 0]) ∧ FreshI w.heap.size w' (.slice (some ⟨g, 0, none⟩) X.length c) (X.map (numI d)) ∧ Below w.heap.size w w')


end Go.Proofs.Ytgncaploccbfnaa.PW
