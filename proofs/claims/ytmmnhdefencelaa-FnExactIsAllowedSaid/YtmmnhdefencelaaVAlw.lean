/-
  Walks: IsAllowed in the program and in the model.
-/
import Derived.Test.YtmmnhdefencelaaVRemO
import Derived.Test.YtmmnhdefencelaaVRemP
import Derived.Test.YtmmnhdefencelaaVArg
namespace Go.Proofs.Ytmmnhdefencelaa.PW
open Go.RowKit Go.Proofs.Ytmmnhdefencelaa
open Go.Proofs.Ytmmnhdefencelaa.PM Go.Proofs.Ytmmnhdefencelaa.PX

def nonnZ (xs : List (Int × Int)) : Bool := xs.all fun x => decide (0 ≤ x.1)
theorem nonnZ_iff (xs : List (Int × Int)) : nonnZ xs = true ↔ ∀ j, j < xs.length → 0 ≤ (xs.getD j (0, 0)).1 := by
  unfold nonnZ
  rw [List.all_eq_true]
  constructor
  · intro h j hj
    exact of_decide_eq_true (h _ (getD_mem2 hj))
  · intro h x hx
    obtain ⟨j, hj, rfl⟩ := List.getElem_of_mem hx
    have := h j hj
    simpa [hj] using this
theorem nonnZ_no {xs : List (Int × Int)} {j : Nat} (hj : j < xs.length) (h : (xs.getD j (0, 0)).1 < 0) : nonnZ xs = false := by
  cases e : nonnZ xs
  · rfl
  · have := (nonnZ_iff xs).1 e j hj
    omega
theorem OwnF.frsv {w : World} {v : Value} {xs : List (Int × Int)} (h : OwnF w v xs) (hI : ∀ x ∈ xs, I64 x.1 ∧ I64 x.2) : Frs w v xs := by
  rcases h.cases with ⟨rfl, rfl⟩ | ⟨g, cap, rfl, _⟩
  · exact ⟨none, 0, rfl, Nat.le_refl _, Nat.zero_le _, hI, .inl rfl⟩
  · exact h.frs hI
def alOut (M : List (List Int)) (Q : List Int) (Z : List (Int × Int)) : Bool × Int :=
  if (remOut M Q Z).2 = 0 then (nonnZ Z && nonnZ (remOut M Q Z).1, 0) else (false, (remOut M Q Z).2)
theorem rem_zero {M : List (List Int)} {Q : List Int} {Z : List (Int × Int)} (h : (remOut M Q Z).2 = 0) : 1 ≤ Z.length ∧ Z.length ≤ 5 ∧ (remOut M Q Z).1.length = Z.length ∧ ∀ x ∈ (remOut M Q Z).1, I64 x.1 ∧ I64 x.2 := by
  rcases fc_cases M Q Z with hc | ⟨hc, hp, hf, hl⟩
  · rw [remOut_err (by omega)] at h
    dsimp only at h
    omega
  have h5 := (isPB_facts hp).2.1
  have h51 := (isPB_facts hp).1
  cases hcm : comOut Z with
  | none => rw [remOut_none hc hcm] at h; simp at h
  | some d =>
    rw [remOut_some hc hcm] at h ⊢
    cases hk : limOk d (remL M Q (Z.map (numI d)) d)
    · rw [limOut_no hk] at h; simp at h
    · rw [limOut_ok hk]
      refine ⟨by omega, by omega, by simp [remL_length]; omega, fun x hx => ?_⟩
      obtain ⟨y, hy, rfl⟩ := List.mem_map.1 hx
      have hk' := hk
      unfold limOk at hk'
      have hb := FM.isF_yes (List.all_eq_true.1 hk' y hy)
      unfold limF I64
      omega

set_option maxHeartbeats 1000000 in
theorem areNonneg_frs (v : Value) (xs : List (Int × Int)) (w : World) (hv : Frs w v xs) (hn1 : 1 ≤ xs.length) (hm : xs.length ≤ 1048576) :
    Calls Try.prog 85 #[v] w fun e w' => e = .returned (.bool (nonnZ xs)) ∧ Below w.heap.size w w' := by
  obtain ⟨b, off, c, rfl, _, hcell⟩ := hv.at_ hn1
  have HC := Lib.hid hcell
  have HI := Lib.hid (nonnZ_iff xs)
  have HNO := Lib.hid (fun j (hj : j < xs.length) => nonnZ_no hj)
  obtain ⟨t, ht⟩ : ∃ t, t = nonnZ xs := ⟨_, rfl⟩
  rw [← ht] at HI HNO ⊢
  clear hv hcell ht
  go_enter Try.func85, Try.ntmps85
  go_wp2
  go_loopw [4, 7] (fun _ i wr => ∃ k : Nat, k ≤ xs.length ∧ i = .int .i64 k ∧ Hid (∀ j, j < k → 0 ≤ (xs.getD j (0, 0)).1) ∧ Below w.heap.size w wr) (fun _ i _ => xs.length - (intOf i).toNat)
  case atStart => exact ⟨0, Nat.zero_le _, rfl, fun j hj => absurd hj (Nat.not_lt_zero _), Below.refl _ _⟩
  case round =>
    obtain ⟨k, hk, rfl, HA, hB⟩ := hrel
    by_cases hlt3 : k < xs.length
    · obtain ⟨c0, c1⟩ := HC.out wr hB k hlt3
      have hno := HNO.out k hlt3
      have HBW := Lib.hid hB
      obtain ⟨x, hx⟩ : ∃ x, x = (xs.getD k (0, 0)).1 := ⟨_, rfl⟩
      rw [← hx] at c0 hno
      have HX := Lib.hid hx
      have HN := Lib.hid hno
      generalize (xs.getD k (0, 0)).2 = y at *
      clear hx hno
      by_cases hneg : x < 0
      · have hbf : Hid (t = false) := HN.out hneg
        go_wp2
        go_ret
        exact ⟨ret_bool hbf.out.symm, by (repeat' (first | (with_reducible exact Below.refl _ _) | (with_reducible assumption) | (with_reducible refine Below.alloc ?_ ?_ _) | (with_reducible refine Below.drew ?_) | (with_reducible refine below_drewN ?_ _) | (with_reducible refine Below.setCell ?_ ?_ _) | (with_reducible refine Below.trans ?_ (Below.mono (by with_reducible assumption) ?_)) | (with_reducible exact Below.size (by with_reducible assumption)) | go_size))⟩
      · have hnext : Hid (∀ j, j < k + 1 → 0 ≤ (xs.getD j (0, 0)).1) := by
          show ∀ j, j < k + 1 → _
          intro j hj
          by_cases e : j = k
          · subst e; rw [← HX.out]; omega
          · exact HA.out j (by omega)
        go_wp2
        go_roundw
        case rel => exact ⟨k + 1, by omega, by go_num, hnext, by (repeat' (first | (with_reducible exact Below.refl _ _) | (with_reducible assumption) | (with_reducible refine Below.alloc ?_ ?_ _) | (with_reducible refine Below.drew ?_) | (with_reducible refine below_drewN ?_ _) | (with_reducible refine Below.setCell ?_ ?_ _) | (with_reducible refine Below.trans ?_ (Below.mono (by with_reducible assumption) ?_)) | (with_reducible exact Below.size (by with_reducible assumption)) | go_size))⟩
        case measure => simp [intOf]; omega
    · obtain rfl : k = xs.length := by omega
      have hbt : Hid (t = true) := HI.out.2 HA.out
      go_wp2
      go_ret
      exact ⟨ret_bool hbt.out.symm, hB⟩

set_option maxRecDepth 100000 in
set_option maxHeartbeats 4000000 in
theorem implIsAllowed_any (m q z : Value) (M : List (List Int)) (Q : List Int) (Z : List (Int × Int)) (w : World) (h1 : PM.Rows w m M) (h2 : Ints w q Q) (h3 : Frs w z Z) :
    Calls Try.prog 37 #[.agg #[m, q], z] w fun e w' => e = .returned (.tuple #[.bool (alOut M Q Z).1, .int .i64 (alOut M Q Z).2]) ∧ Below w.heap.size w w' := by
  have HR := Lib.hid (fun (w' : World) (h : Below w.heap.size w w') => implRemainderOf_any m q z M Q Z w' (h1.below h) (h2.below h) (h3.below h))
  have H3 := Lib.hid h3
  obtain ⟨a1, c1, rfl, _⟩ := h1
  obtain ⟨a2, c2, rfl, _⟩ := h2
  obtain ⟨a3, c3, rfl, _⟩ := h3
  have hz := rem_zero (M := M) (Q := Q) (Z := Z)
  unfold alOut
  generalize remOut M Q Z = o at *
  obtain ⟨O, code⟩ := o
  dsimp only at hz
  have HZ := Lib.hid hz
  clear hz
  have HB0 := Lib.hid (show Below w.heap.size w (w.alloc (.cells #[.slice a1 M.length c1, .slice a2 Q.length c2] 27)) from (Below.refl _ _).alloc (Nat.le_refl _) _)
  by_cases hc : code = 0
  · obtain ⟨f1, f2, f3, f4⟩ := HZ.out hc
    have HF4 := Lib.hid f4
    have HF3 := Lib.hid f3
    have HF1 := Lib.hid f1
    have HF2 := Lib.hid f2
    clear HZ f1 f2 f3 f4
    subst hc
    simp only [if_true]
    go_enter Try.func37, Try.ntmps37
    go_wp2_with fail
    refine (HR.out _ HB0.out).mono ?_
    rintro e w1 ho1
    obtain ⟨a5, c5, rfl, hr5, hb5⟩ := ho1.out
    dsimp only at hr5
    dsimp only
    have HW1 := Lib.hid (HB0.out.trans (hb5.mono HB0.out.size))
    have HO5 := Lib.hid hr5.own
    clear ho1 hr5 hb5 HR HB0
    have HA := Lib.hid (areNonneg_frs _ Z w1 (H3.out.below HW1.out) HF1.out (by have := HF2.out; omega))
    go_wp2_with fail
    refine HA.out.mono ?_
    rintro e w2 ⟨rfl, hb2⟩
    have HA2 := Lib.hid (areNonneg_frs (.slice a5 O.length c5) O w2 ((HO5.out.frsv HF4.out).below hb2) (by have := HF3.out; have := HF1.out; omega) (by have := HF3.out; have := HF2.out; omega))
    have HW2 := Lib.hid (HW1.out.trans (hb2.mono HW1.out.size))
    clear hb2 HA
    cases hn : nonnZ Z
    · go_wp2_with fail
      go_ret2
      exact ⟨by rw [hn]; rfl, HW2.out⟩
    · go_wp2_with fail
      refine HA2.out.mono ?_
      rintro e w3 ⟨rfl, hb3⟩
      have HW3 := Lib.hid (HW2.out.trans (hb3.mono HW2.out.size))
      clear hb3
      go_wp2_with fail
      go_ret2
      exact ⟨by rw [hn]; rfl, HW3.out⟩
  · have hC0 : (code != 0) = true := by simp; omega
    rw [if_neg hc]
    go_enter Try.func37, Try.ntmps37
    go_wp2_with fail
    refine (HR.out _ HB0.out).mono ?_
    rintro e w1 ho1
    obtain ⟨a5, c5, rfl, hr5, hb5⟩ := ho1.out
    dsimp only at hr5
    dsimp only
    have HW1 := Lib.hid (HB0.out.trans (hb5.mono HB0.out.size))
    have HO5 := Lib.hid hr5.own
    clear ho1 hr5 hb5 HR HB0
    go_wp2_with fail
    go_ret2
    exact ⟨rfl, HW1.out⟩

set_option maxRecDepth 100000 in
set_option maxHeartbeats 4000000 in
theorem specIsAllowed_any (m q z : Value) (M : List (List Int)) (Q : List Int) (Z : List (Int × Int)) (w : World) (h1 : PM.Rows w m M) (h2 : Ints w q Q) (h3 : Frs w z Z) :
    Calls Try.prog 36 #[.agg #[m, q], z] w fun e w' => e = .returned (.tuple #[.bool (alOut M Q Z).1, .int .i64 (alOut M Q Z).2]) ∧ Below w.heap.size w w' := by
  have HR := Lib.hid (fun (w' : World) (h : Below w.heap.size w w') => specRemainderOf_any m q z M Q Z w' (h1.below h) (h2.below h) (h3.below h))
  have H3 := Lib.hid h3
  obtain ⟨a1, c1, rfl, _⟩ := h1
  obtain ⟨a2, c2, rfl, _⟩ := h2
  have hz := rem_zero (M := M) (Q := Q) (Z := Z)
  unfold alOut
  generalize remOut M Q Z = o at *
  obtain ⟨O, code⟩ := o
  dsimp only at hz
  have HB0 := Lib.hid (show Below w.heap.size w (w.alloc (.cells #[.slice a1 M.length c1, .slice a2 Q.length c2] 27)) from (Below.refl _ _).alloc (Nat.le_refl _) _)
  by_cases hc : code = 0
  · obtain ⟨f1, f2, f3, f4⟩ := hz hc
    obtain ⟨b, off, cz, rfl, hzb, hZc⟩ := h3.at_ f1
    have HZC := Lib.hid hZc
    have HF4 := Lib.hid f4
    have HF3 := Lib.hid f3
    subst hc
    simp only [if_true]
    have HI1 := Lib.hid (nonnZ_iff Z)
    have HI2 := Lib.hid (nonnZ_iff O)
    have HN1 := Lib.hid (fun j (hj : j < Z.length) => nonnZ_no hj)
    have HN2 := Lib.hid (fun j (hj : j < O.length) => nonnZ_no hj)
    obtain ⟨t1, ht1⟩ : ∃ t1, t1 = nonnZ Z := ⟨_, rfl⟩
    obtain ⟨t2, ht2⟩ : ∃ t2, t2 = nonnZ O := ⟨_, rfl⟩
    rw [← ht1] at HI1 HN1 ⊢
    rw [← ht2] at HI2 HN2 ⊢
    rw [f3] at HI2 HN2
    clear h3 hz hZc hzb f3 f4 ht1 ht2
    go_enter Try.func36, Try.ntmps36
    go_wp2_with fail
    refine (HR.out _ HB0.out).mono ?_
    rintro e w1 ho1
    obtain ⟨a5, c5, rfl, hr5, hb5⟩ := ho1.out
    dsimp only at hr5
    dsimp only
    rw [HF3.out] at hr5 ⊢
    have HW1 := Lib.hid (HB0.out.trans (hb5.mono HB0.out.size))
    have hfo := hr5.own.frsv HF4.out
    obtain ⟨ob, oo, oc, hov, hob, hOc⟩ := hfo.at_ (by have := HF3.out; omega)
    obtain ⟨rfl, rfl⟩ : a5 = some ⟨ob, oo, none⟩ ∧ c5 = oc := by
      simp only [Value.slice.injEq] at hov
      exact ⟨hov.1, hov.2.2⟩
    have HOC := Lib.hid (fun wr hw i (hi : i < Z.length) => hOc wr hw i (by have := HF3.out; omega))
    clear ho1 hr5 hb5 HR HB0 hov hob hOc hfo
    go_wp2_with fail
    go_loopw [8] (fun i wr => ∃ k : Nat, k ≤ Z.length ∧ i = .int .i64 k ∧ Hid (∀ j, j < k → 0 ≤ (Z.getD j (0, 0)).1) ∧ Hid (∀ j, j < k → 0 ≤ (O.getD j (0, 0)).1) ∧ Below w1.heap.size w1 wr) (fun i _ => Z.length - (intOf i).toNat)
    case atStart => exact ⟨0, Nat.zero_le _, rfl, fun j hj => absurd hj (Nat.not_lt_zero _), fun j hj => absurd hj (Nat.not_lt_zero _), Below.refl _ _⟩
    case round =>
      obtain ⟨k, hk, rfl, HA1, HA2, hB⟩ := hrel
      by_cases hlt : k < Z.length
      · obtain ⟨e0, _⟩ := HZC.out wr (HW1.out.trans (hB.mono HW1.out.size)) k hlt
        obtain ⟨e1, _⟩ := HOC.out wr hB k hlt
        have hn1 := HN1.out k hlt
        have hn2 := HN2.out k hlt
        obtain ⟨x, hx⟩ : ∃ x, x = (Z.getD k (0, 0)).1 := ⟨_, rfl⟩
        obtain ⟨y, hy⟩ : ∃ y, y = (O.getD k (0, 0)).1 := ⟨_, rfl⟩
        rw [← hx] at e0 hn1
        rw [← hy] at e1 hn2
        have HX := Lib.hid hx
        have HY := Lib.hid hy
        have HM1 := Lib.hid hn1
        have HM2 := Lib.hid hn2
        have HBE := Lib.hid (HW1.out.trans (hB.mono HW1.out.size))
        have HB := Lib.hid hB
        clear hx hy hn1 hn2 hB
        by_cases hx0 : x < 0
        · have hbf : Hid (t1 = false) := HM1.out hx0
          go_wp2_with fail
          go_ret2
          exact ⟨by rw [hbf.out]; rfl, HBE.out⟩
        by_cases hy0 : y < 0
        · have hbf : Hid (t2 = false) := HM2.out hy0
          go_wp2_with fail
          go_ret2
          exact ⟨by rw [hbf.out, Bool.and_false]; rfl, HBE.out⟩
        have hk1 : Hid (∀ j, j < k + 1 → 0 ≤ (Z.getD j (0, 0)).1) := fun j hj => by
          by_cases e : j = k
          · subst e; rw [← HX.out]; omega
          · exact HA1.out j (by omega)
        have hk2 : Hid (∀ j, j < k + 1 → 0 ≤ (O.getD j (0, 0)).1) := fun j hj => by
          by_cases e : j = k
          · subst e; rw [← HY.out]; omega
          · exact HA2.out j (by omega)
        go_wp2_with fail
        go_roundw
        case rel => exact ⟨k + 1, by omega, by go_num, hk1, hk2, HB.out⟩
        case measure => simp [intOf]; omega
      · obtain rfl : k = Z.length := by omega
        have hb1 : Hid (t1 = true) := HI1.out.2 HA1.out
        have hb2 : Hid (t2 = true) := HI2.out.2 HA2.out
        have HBE := Lib.hid (HW1.out.trans (hB.mono HW1.out.size))
        clear hB
        go_wp2_with fail
        go_ret2
        exact ⟨by rw [hb1.out, hb2.out]; rfl, HBE.out⟩
  · obtain ⟨a3, c3, rfl, _⟩ := h3
    have hC0 : (code != 0) = true := by simp; omega
    rw [if_neg hc]
    clear hz
    go_enter Try.func36, Try.ntmps36
    go_wp2_with fail
    refine (HR.out _ HB0.out).mono ?_
    rintro e w1 ho1
    obtain ⟨a5, c5, rfl, hr5, hb5⟩ := ho1.out
    dsimp only at hr5
    dsimp only
    have HW1 := Lib.hid (HB0.out.trans (hb5.mono HB0.out.size))
    clear ho1 hr5 hb5 HR HB0
    go_wp2_with fail
    go_ret2
    exact ⟨rfl, HW1.out⟩
end Go.Proofs.Ytmmnhdefencelaa.PW
