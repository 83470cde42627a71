/-
  Walks: BestReplies in the program and in the model (written by gbes.py).
  Walks: BestReplies in the program (written by gbei.py).
-/
import Derived.Test.YtimcokealhnfhaaGRepX
import Derived.Test.YtimcokealhnfhaaGMixS
import Derived.Test.YtimcokealhnfhaaGTab
namespace Go.Proofs.Ytimcokealhnfhaa.PW
open Go.RowKit Go.Proofs.Ytimcokealhnfhaa
open Go.Proofs.Ytimcokealhnfhaa.PM

/-- What stands of the numbers of a mix. -/
theorem mix_facts {xs : List (Int × Int)} {n : Nat} {L : List Int} {d : Int} (h : mixOut xs n = some (L, d)) : L.length = n ∧ (∀ t, t < n → 0 ≤ L.getD t 0 ∧ L.getD t 0 ≤ 1000000000) ∧ (∀ x ∈ L, I64 x) ∧ d ≤ 1000000000 := by
  unfold mixOut at h
  split at h
  case isFalse => cases h
  rename_i hc
  have hok := (mixOk_iff xs).1 hc.2
  have hfr := fracs_of (fun i hi => (hok i hi).1)
  cases ho : comOut xs with
  | none => rw [ho] at h; cases h
  | some e =>
    rw [ho] at h
    simp only at h
    split at h
    case isFalse => cases h
    rename_i hs
    obtain ⟨rfl, rfl⟩ : xs.map (numI e) = L ∧ e = d := by simpa using h
    obtain ⟨hbd, _⟩ := comOut_some hfr ho
    have hL : ∀ i, i < (xs.map (numI e)).length → 0 ≤ (xs.map (numI e)).getD i 0 := fun i hi => by
      have hi' : i < xs.length := by simpa using hi
      rw [show (xs.map (numI e)).getD i 0 = numI e (xs.getD i (0, 0)) by simp [hi']]
      have hx := FM.isF_yes (hok i hi').1
      have hb := (numI_bd hbd (hok i hi').1).1
      unfold numI
      exact Int.mul_nonneg (hok i hi').2 hb.1
    have hge := (sum_ge hL (xs.map (numI e)).length (Nat.le_refl _)).2
    rw [show (xs.map (numI e)).length = xs.length by simp, hs] at hge
    have hll : (xs.map (numI e)).length = n := by simpa using hc.1
    have hb2 : ∀ t, t < n → 0 ≤ (xs.map (numI e)).getD t 0 ∧ (xs.map (numI e)).getD t 0 ≤ 1000000000 := fun t ht => by
      have := hL t (by omega)
      have := hge t (by have := hc.1; omega)
      omega
    refine ⟨hll, hb2, fun x hx => ?_, hbd.2⟩
    obtain ⟨i, hi, rfl⟩ := List.mem_iff_getElem.1 hx
    have := hb2 i (by omega)
    rw [show (xs.map (numI e)).getD i 0 = (xs.map (numI e))[i] by simp [show i < xs.length by simpa using hi]] at this
    unfold I64
    omega
def beOut (A B : List (List Int)) (p : Int) (Z : List (Int × Int)) : List Int × Int :=
  if isGB A B = true then (if p = 0 then (match mixOut Z (gcols A) with
      | none => ([], 2)
      | some x => (repL (payL (fun o t => gE A o t) x.1 A.length (gcols A)), 0))
    else if p = 1 then (match mixOut Z A.length with
      | none => ([], 2)
      | some x => (repL (payL (fun o t => gE B t o) x.1 (gcols A) A.length), 0))
    else ([], 2)) else ([], 1)
theorem beOut_no {A B : List (List Int)} {p : Int} {Z : List (Int × Int)} (h : isGB A B = false) : beOut A B p Z = ([], 1) := by unfold beOut; rw [if_neg (by simp [h])]
theorem beOut_far {A B : List (List Int)} {p : Int} {Z : List (Int × Int)} (h : isGB A B = true) (h0 : p ≠ 0) (h1 : p ≠ 1) : beOut A B p Z = ([], 2) := by unfold beOut; rw [if_pos h, if_neg h0, if_neg h1]
theorem beOut_0n {A B : List (List Int)} {Z : List (Int × Int)} (h : isGB A B = true) (hm : mixOut Z (gcols A) = none) : beOut A B 0 Z = ([], 2) := by unfold beOut; rw [if_pos h, if_pos rfl, hm]
theorem beOut_0s {A B : List (List Int)} {Z : List (Int × Int)} {L : List Int} {d : Int} (h : isGB A B = true) (hm : mixOut Z (gcols A) = some (L, d)) : beOut A B 0 Z = (repL (payL (fun o t => gE A o t) L A.length (gcols A)), 0) := by unfold beOut; rw [if_pos h, if_pos rfl, hm]
theorem beOut_1n {A B : List (List Int)} {Z : List (Int × Int)} (h : isGB A B = true) (hm : mixOut Z A.length = none) : beOut A B 1 Z = ([], 2) := by unfold beOut; rw [if_pos h, if_neg (by decide), if_pos rfl, hm]
theorem beOut_1s {A B : List (List Int)} {Z : List (Int × Int)} {L : List Int} {d : Int} (h : isGB A B = true) (hm : mixOut Z A.length = some (L, d)) : beOut A B 1 Z = (repL (payL (fun o t => gE B t o) L (gcols A) A.length), 0) := by unfold beOut; rw [if_pos h, if_neg (by decide), if_pos rfl, hm]
theorem repL_fine (P : List Int) (h : P.length ≤ 5) : FineI (repL P) := by
  refine ⟨fun x hx => ?_, ?_⟩
  · have := repTo_in P _ _ x hx
    unfold I64; omega
  · have := repTo_len P (bestTo P P.length) P.length
    unfold repL
    omega
theorem fine_be (A B : List (List Int)) (Z : List (Int × Int)) (p : Int) : FineI (beOut A B p Z).1 := by
  unfold beOut
  split
  · rename_i h
    have hg := (isGB_iff A B).1 h
    have h5 := hg.n5
    split
    · split
      · exact fineI_nil
      · exact repL_fine _ (by simp [payL]; omega)
    · split
      · split
        · exact fineI_nil
        · exact repL_fine _ (by simp [payL]; omega)
      · exact fineI_nil
  · exact fineI_nil
theorem outI_nilG {w w' : World} {c : Int} (h : Below w.heap.size w w') : OutI w ([], c) (.returned (.tuple #[.slice none 0 0, .int .i64 c])) w' :=
  ⟨_, rfl, (orI_nil w.heap.size w').rng, h⟩
theorem FreshI.rngG {B : Nat} {w : World} {v : Value} {xs : List Int} (h : FreshI B w v xs) : RngI B w.heap.size w v xs := by
  obtain ⟨g, cap, rfl, hB, hlt, ho⟩ := h
  exact ⟨ho, fun b hb => by simp [Value.ownBlock] at hb; omega⟩

set_option maxRecDepth 100000 in
set_option maxHeartbeats 8000000 in
theorem specBestReplies_any (m q l : Value) (A B : List (List Int)) (Z : List (Int × Int)) (p : Int) (w : World) (h1 : PM.Rows w m A) (h2 : PM.Rows w q B) (h3 : Frs w l Z) :
    Calls Try.prog 36 #[.agg #[m, q], .int .i64 p, l] w (OutI w (beOut A B p Z)) := by
  have HIS := Lib.hid (fun (w' : World) (h : Below w.heap.size w w') => l07Is_any m q A B w' (h1.below h) (h2.below h))
  cases hc : isGB A B
  · rw [beOut_no hc]
    rw [hc] at HIS
    obtain ⟨a1, c1, rfl, _⟩ := h1
    obtain ⟨a2, c2, rfl, _⟩ := h2
    obtain ⟨a3, c3, rfl, _⟩ := h3
    clear hc
    go_enter Try.func36, Try.ntmps36
    go_wp2_with fail
    refine (HIS.out _ (by (repeat' (first | (with_reducible exact Below.refl _ _) | (with_reducible assumption) | (with_reducible refine Below.alloc ?_ ?_ _) | (with_reducible refine Below.drew ?_) | (with_reducible refine below_drewN ?_ _) | (with_reducible refine Below.setCell ?_ ?_ _) | (with_reducible refine Below.trans ?_ (Below.mono (by with_reducible assumption) ?_)) | (with_reducible exact Below.size (by with_reducible assumption)) | go_size)))).mono ?_; rintro e w1 ⟨rfl, hb1⟩
    have hw1 : Below w.heap.size w w1 := by (repeat' (first | (with_reducible exact Below.refl _ _) | (with_reducible assumption) | (with_reducible refine Below.alloc ?_ ?_ _) | (with_reducible refine Below.drew ?_) | (with_reducible refine below_drewN ?_ _) | (with_reducible refine Below.setCell ?_ ?_ _) | (with_reducible refine Below.trans ?_ (Below.mono (by with_reducible assumption) ?_)) | (with_reducible exact Below.size (by with_reducible assumption)) | go_size))
    go_wp2_with fail
    go_ret2
    exact outI_nilG hw1
  rw [hc] at HIS
  by_cases hp01 : p = 0 ∨ p = 1
  case neg =>
    rw [beOut_far hc (by omega) (by omega)]
    have HL := Lib.hid (show decide ((0 : Int) ≤ p ∧ p ≤ 1) = false from decide_eq_false (by omega))
    obtain ⟨a1, c1, rfl, _⟩ := h1
    obtain ⟨a2, c2, rfl, _⟩ := h2
    obtain ⟨a3, c3, rfl, _⟩ := h3
    clear hc hp01
    go_enter Try.func36, Try.ntmps36
    go_wp2_with fail
    refine (HIS.out _ (by (repeat' (first | (with_reducible exact Below.refl _ _) | (with_reducible assumption) | (with_reducible refine Below.alloc ?_ ?_ _) | (with_reducible refine Below.drew ?_) | (with_reducible refine below_drewN ?_ _) | (with_reducible refine Below.setCell ?_ ?_ _) | (with_reducible refine Below.trans ?_ (Below.mono (by with_reducible assumption) ?_)) | (with_reducible exact Below.size (by with_reducible assumption)) | go_size)))).mono ?_; rintro e w1 ⟨rfl, hb1⟩
    have hw1 : Below w.heap.size w w1 := by (repeat' (first | (with_reducible exact Below.refl _ _) | (with_reducible assumption) | (with_reducible refine Below.alloc ?_ ?_ _) | (with_reducible refine Below.drew ?_) | (with_reducible refine below_drewN ?_ _) | (with_reducible refine Below.setCell ?_ ?_ _) | (with_reducible refine Below.trans ?_ (Below.mono (by with_reducible assumption) ?_)) | (with_reducible exact Below.size (by with_reducible assumption)) | go_size))
    go_wp2_with fail
    refine (l01In_is p 0 1 false _ HL.out).mono ?_; rintro e w2 ⟨rfl, rfl⟩
    go_wp2_with fail
    go_ret2
    exact outI_nilG hw1
  have hg := (isGB_iff A B).1 hc
  have HG := Lib.hid hg
  obtain ⟨k1, l1, n5, bk, al, bl, _, _⟩ := hg
  have H1 := Lib.hid h1
  have H2 := Lib.hid h2
  obtain ⟨b, off, c, rfl, hA⟩ := tab_at h1 k1 l1 al
  obtain ⟨a2, c2, rfl, _⟩ := h2
  have H3 := Lib.hid h3
  obtain ⟨a3, c3, rfl, _⟩ := h3
  have HA := Lib.hid (fun wr hw => hA wr hw 0 (by omega))
  rw [bk] at H2 HIS ⊢
  obtain ⟨W0, hW0⟩ : ∃ W0, W0 = w.alloc (.cells #[.slice (some ⟨b, off, none⟩) A.length c, .slice a2 A.length c2] 43) := ⟨_, rfl⟩
  have hb0 : Below w.heap.size w W0 := by rw [hW0]; exact (Below.refl _ _).alloc (Nat.le_refl _) _
  have hz0 : w.heap.size < W0.heap.size := by rw [hW0]; simp
  have x0 : W0.cell? ⟨w.heap.size, 0, none⟩ = some (.slice (some ⟨b, off, none⟩) A.length c) := by rw [hW0]; simp
  have x1 : W0.cell? ⟨w.heap.size, 1, none⟩ = some (.slice a2 A.length c2) := by rw [hW0]; simp
  have HW0 := Lib.hid hW0
  have HB0 := Lib.hid hb0
  have HK := Lib.hid (fun wr (h : Below W0.heap.size W0 wr) => show wr.cell? ⟨w.heap.size, 0, none⟩ = some (.slice (some ⟨b, off, none⟩) A.length c) ∧ wr.cell? ⟨w.heap.size, 1, none⟩ = some (.slice a2 A.length c2) from
    ⟨(h.cell (p := ⟨w.heap.size, 0, none⟩) hz0).trans x0, (h.cell (p := ⟨w.heap.size, 1, none⟩) hz0).trans x1⟩)
  have HC := Lib.hid hc
  clear hW0 hb0 x0 x1 hA bk al bl hc
  rcases hp01 with rfl | rfl
  · have HL := Lib.hid (show decide ((0 : Int) ≤ 0 ∧ (0 : Int) ≤ 1) = true from by decide)
    have HMX := Lib.hid (fun (w' : World) (h : Below w.heap.size w w') => l07Mix_any _ Z (gcols A) 1000000000 w' (H3.out.below h) (by omega) (by omega) (by decide) (by decide))
    have HNONE := Lib.hid (beOut_0n (Z := Z) HC.out)
    have HSOME := Lib.hid (fun L d => beOut_0s (Z := Z) (L := L) (d := d) HC.out)
    generalize beOut A B 0 Z = OUT at *
    go_enter Try.func36, Try.ntmps36
    go_wp2_with fail
    rw [← HW0.out]
    refine (HIS.out _ HB0.out).mono ?_; rintro e w1 ⟨rfl, hb1⟩
    obtain ⟨e0, e1⟩ := HK.out w1 hb1
    have HW1 := Lib.hid (HB0.out.trans (hb1.mono HB0.out.size))
    have HB1 := Lib.hid hb1
    obtain ⟨r9, ro9, rd9, t9, _⟩ := HA.out w1 HW1.out
    simp only [Nat.add_zero] at t9
    clear hb1 HIS HW0
    go_wp2_with fail
    refine (l01In_is 0 0 1 true _ HL.out).mono ?_; rintro e w2 ⟨rfl, rfl⟩
    go_wp2_with fail
    refine (HMX.out _ HW1.out).mono ?_
    clear t9
    rintro e w2 (⟨hno, rfl, hb2⟩ | ⟨L, d, hso, hcs, hb2⟩)
    · have HO := Lib.hid (HNONE.out hno)
      have hw2 : Below w.heap.size w w2 := HW1.out.trans (hb2.mono HW1.out.size)
      clear hno hb2 e0 e1
      go_wp2_with fail
      go_ret2
      rw [HO.out]
      exact outI_nilG hw2
    · obtain ⟨f1, f2, f3, f4⟩ := mix_facts hso
      rcases hcs with ⟨hd, _⟩ | ⟨_, g, c', rfl, hF⟩
      · exact absurd hd (by omega)
      have HO := Lib.hid (HSOME.out L d hso)
      have HW2 := Lib.hid (HW1.out.trans (hb2.mono HW1.out.size))
      obtain ⟨g0, g1⟩ := HK.out w2 (HB1.out.trans (hb2.mono HB1.out.size))
      have HRP := Lib.hid (l07Replies_0 _ _ _ A B L w2 (H1.out.below HW2.out) (H2.out.below HW2.out) (freshI_ints hF f3) HG.out f1 f2)
      clear hso f1 f2 f3 f4 hF hb2 e0 e1
      go_wp2_with fail
      refine HRP.out.mono ?_
      rintro e w3 ⟨v, rfl, hF3, hb3⟩
      have HW3 := Lib.hid (HW2.out.trans (hb3.mono HW2.out.size))
      have HF3 := Lib.hid (hF3.mono HW2.out.size)
      clear hF3 hb3
      go_wp2_with fail
      go_ret2
      rw [HO.out]
      exact ⟨_, rfl, HF3.out.rngG, HW3.out⟩
  · have HL := Lib.hid (show decide ((0 : Int) ≤ 1 ∧ (1 : Int) ≤ 1) = true from by decide)
    have HMX := Lib.hid (fun (w' : World) (h : Below w.heap.size w w') => l07Mix_any _ Z A.length 1000000000 w' (H3.out.below h) (by omega) (by omega) (by decide) (by decide))
    have HNONE := Lib.hid (beOut_1n (Z := Z) HC.out)
    have HSOME := Lib.hid (fun L d => beOut_1s (Z := Z) (L := L) (d := d) HC.out)
    generalize beOut A B 1 Z = OUT at *
    go_enter Try.func36, Try.ntmps36
    go_wp2_with fail
    rw [← HW0.out]
    refine (HIS.out _ HB0.out).mono ?_; rintro e w1 ⟨rfl, hb1⟩
    obtain ⟨e0, e1⟩ := HK.out w1 hb1
    have HW1 := Lib.hid (HB0.out.trans (hb1.mono HB0.out.size))
    have HB1 := Lib.hid hb1
    obtain ⟨r9, ro9, rd9, t9, _⟩ := HA.out w1 HW1.out
    simp only [Nat.add_zero] at t9
    clear hb1 HIS HW0
    go_wp2_with fail
    refine (l01In_is 1 0 1 true _ HL.out).mono ?_; rintro e w2 ⟨rfl, rfl⟩
    go_wp2_with fail
    refine (HMX.out _ HW1.out).mono ?_
    clear t9
    rintro e w2 (⟨hno, rfl, hb2⟩ | ⟨L, d, hso, hcs, hb2⟩)
    · have HO := Lib.hid (HNONE.out hno)
      have hw2 : Below w.heap.size w w2 := HW1.out.trans (hb2.mono HW1.out.size)
      clear hno hb2 e0 e1
      go_wp2_with fail
      go_ret2
      rw [HO.out]
      exact outI_nilG hw2
    · obtain ⟨f1, f2, f3, f4⟩ := mix_facts hso
      rcases hcs with ⟨hd, _⟩ | ⟨_, g, c', rfl, hF⟩
      · exact absurd hd (by omega)
      have HO := Lib.hid (HSOME.out L d hso)
      have HW2 := Lib.hid (HW1.out.trans (hb2.mono HW1.out.size))
      obtain ⟨g0, g1⟩ := HK.out w2 (HB1.out.trans (hb2.mono HB1.out.size))
      have HRP := Lib.hid (l07Replies_1 _ _ _ A B L w2 (H1.out.below HW2.out) (H2.out.below HW2.out) (freshI_ints hF f3) HG.out f1 f2)
      clear hso f1 f2 f3 f4 hF hb2 e0 e1
      go_wp2_with fail
      refine HRP.out.mono ?_
      rintro e w3 ⟨v, rfl, hF3, hb3⟩
      have HW3 := Lib.hid (HW2.out.trans (hb3.mono HW2.out.size))
      have HF3 := Lib.hid (hF3.mono HW2.out.size)
      clear hF3 hb3
      go_wp2_with fail
      go_ret2
      rw [HO.out]
      exact ⟨_, rfl, HF3.out.rngG, HW3.out⟩
end Go.Proofs.Ytimcokealhnfhaa.PW
namespace Go.Proofs.Ytimcokealhnfhaa.PW
open Go.RowKit Go.Proofs.Ytimcokealhnfhaa
open Go.Proofs.Ytimcokealhnfhaa.PM

theorem bestReplies_n (iv sv : Value) (P : List Int) (n : Nat) (w : World) (hPl : P.length = n) (hn1 : 1 ≤ n) (hn5 : n ≤ 5) (hP : ∀ j, j < P.length → 0 ≤ P.getD j 0) (hPI : ∀ x ∈ P, I64 x)
    (hpay : Calls Try.prog 94 #[iv, sv] w fun e w' => ∃ g, e = .returned (.slice (some ⟨g, 0, none⟩) n n) ∧ FreshI w.heap.size w' (.slice (some ⟨g, 0, none⟩) n n) P ∧ Below w.heap.size w w') :
    Calls Try.prog 88 #[iv, sv] w fun e w' => ∃ v, e = .returned v ∧ OrI w.heap.size w' v (repL P) ∧ Below w.heap.size w w' := by
  subst hPl
  exact bestReplies_any iv sv P w hn1 hn5 hP hPI hpay

set_option maxRecDepth 100000 in
theorem playersOf_any (a1 a2 : Option Addr) (n1 c1 n2 c2 : Nat) (w : World) :
    Calls Try.prog 86 #[.agg #[.slice a1 n1 c1, .slice a2 n2 c2]] w fun e w' => e = .returned (.agg #[.iface 151 (.slice a1 n1 c1), .iface 152 (.slice a2 n2 c2)]) ∧ Below w.heap.size w w' := by
  go_enter Try.func86, Try.ntmps86
  go_wp2_with fail
  refine bodyPost_ret (v := .agg #[.iface 151 (.slice a1 n1 c1), .iface 152 (.slice a2 n2 c2)]) (by simp [*, results, Try.results86, go_sem]) rfl ?_
  refine ⟨rfl, ?_⟩
  (repeat' (first | (with_reducible exact Below.refl _ _) | (with_reducible assumption) | (with_reducible refine Below.alloc ?_ ?_ _) | (with_reducible refine Below.drew ?_) | (with_reducible refine below_drewN ?_ _) | (with_reducible refine Below.setCell ?_ ?_ _) | (with_reducible refine Below.trans ?_ (Below.mono (by with_reducible assumption) ?_)) | (with_reducible exact Below.size (by with_reducible assumption)) | go_size))

set_option maxRecDepth 100000 in
set_option maxHeartbeats 8000000 in
theorem implBestReplies_any (m q l : Value) (A B : List (List Int)) (Z : List (Int × Int)) (p : Int) (w : World) (h1 : PM.Rows w m A) (h2 : PM.Rows w q B) (h3 : Frs w l Z) (hs : tot A ≤ 1048576) :
    Calls Try.prog 38 #[.agg #[m, q], .int .i64 p, l] w (OutI w (beOut A B p Z)) := by
  have HIS := Lib.hid (fun (w' : World) (h : Below w.heap.size w w') => implIsGame_any m q A B w' (h1.below h) (h2.below h) hs)
  clear hs
  cases hc : isGB A B
  · rw [beOut_no hc]
    rw [hc] at HIS
    obtain ⟨a1, c1, rfl, _⟩ := h1
    obtain ⟨a2, c2, rfl, _⟩ := h2
    obtain ⟨a3, c3, rfl, _⟩ := h3
    clear hc
    go_enter Try.func38, Try.ntmps38
    go_wp2_with fail
    refine (HIS.out _ (by (repeat' (first | (with_reducible exact Below.refl _ _) | (with_reducible assumption) | (with_reducible refine Below.alloc ?_ ?_ _) | (with_reducible refine Below.drew ?_) | (with_reducible refine below_drewN ?_ _) | (with_reducible refine Below.setCell ?_ ?_ _) | (with_reducible refine Below.trans ?_ (Below.mono (by with_reducible assumption) ?_)) | (with_reducible exact Below.size (by with_reducible assumption)) | go_size)))).mono ?_; rintro e w1 ⟨rfl, hb1⟩
    have hw1 : Below w.heap.size w w1 := by (repeat' (first | (with_reducible exact Below.refl _ _) | (with_reducible assumption) | (with_reducible refine Below.alloc ?_ ?_ _) | (with_reducible refine Below.drew ?_) | (with_reducible refine below_drewN ?_ _) | (with_reducible refine Below.setCell ?_ ?_ _) | (with_reducible refine Below.trans ?_ (Below.mono (by with_reducible assumption) ?_)) | (with_reducible exact Below.size (by with_reducible assumption)) | go_size))
    go_wp2_with fail
    go_ret2
    exact outI_nilG hw1
  rw [hc] at HIS
  by_cases hp01 : p = 0 ∨ p = 1
  case neg =>
    rw [beOut_far hc (by omega) (by omega)]
    have hq0 : (p != 0) = true := by simp; omega
    have hq1 : (p != 1) = true := by simp; omega
    obtain ⟨a1, c1, rfl, _⟩ := h1
    obtain ⟨a2, c2, rfl, _⟩ := h2
    obtain ⟨a3, c3, rfl, _⟩ := h3
    clear hc hp01
    go_enter Try.func38, Try.ntmps38
    go_wp2_with fail
    refine (HIS.out _ (by (repeat' (first | (with_reducible exact Below.refl _ _) | (with_reducible assumption) | (with_reducible refine Below.alloc ?_ ?_ _) | (with_reducible refine Below.drew ?_) | (with_reducible refine below_drewN ?_ _) | (with_reducible refine Below.setCell ?_ ?_ _) | (with_reducible refine Below.trans ?_ (Below.mono (by with_reducible assumption) ?_)) | (with_reducible exact Below.size (by with_reducible assumption)) | go_size)))).mono ?_; rintro e w1 ⟨rfl, hb1⟩
    have hw1 : Below w.heap.size w w1 := by (repeat' (first | (with_reducible exact Below.refl _ _) | (with_reducible assumption) | (with_reducible refine Below.alloc ?_ ?_ _) | (with_reducible refine Below.drew ?_) | (with_reducible refine below_drewN ?_ _) | (with_reducible refine Below.setCell ?_ ?_ _) | (with_reducible refine Below.trans ?_ (Below.mono (by with_reducible assumption) ?_)) | (with_reducible exact Below.size (by with_reducible assumption)) | go_size))
    go_wp2_with fail
    go_ret2
    exact outI_nilG hw1
  have hg := (isGB_iff A B).1 hc
  obtain ⟨k1, l1, n5, bk, al, bl, ae, be⟩ := hg
  have H1 := Lib.hid h1
  have H2 := Lib.hid h2
  obtain ⟨b, off, c, rfl, hA⟩ := tab_at h1 k1 l1 al
  obtain ⟨qb, qo, qc, rfl, hB⟩ := tab_at h2 (by omega) l1 (fun i hi => bl i (by omega))
  have H3 := Lib.hid h3
  obtain ⟨a3, c3, rfl, _⟩ := h3
  have hTA : TabAt w b off A A.length (gcols A) := hA
  have hTB : TabAt w qb qo B A.length (gcols A) := fun wr hw i hi => hB wr hw i (by omega)
  have HTA := Lib.hid hTA
  have HTB := Lib.hid hTB
  rw [bk] at H2 HIS ⊢
  have HAE := Lib.hid ae
  have HBE := Lib.hid be
  have HAL := Lib.hid (al 0 (by omega))
  have HBL := Lib.hid (bl 0 (by omega))
  have HBK := Lib.hid bk
  have hk5 : A.length ≤ 5 := by omega
  have hl5 : gcols A ≤ 5 := by omega
  obtain ⟨W0, hW0⟩ : ∃ W0, W0 = w.alloc (.cells #[.slice (some ⟨b, off, none⟩) A.length c, .slice (some ⟨qb, qo, none⟩) A.length qc] 43) := ⟨_, rfl⟩
  have hb0 : Below w.heap.size w W0 := by rw [hW0]; exact (Below.refl _ _).alloc (Nat.le_refl _) _
  have hz0 : w.heap.size < W0.heap.size := by rw [hW0]; simp
  have x0 : W0.cell? ⟨w.heap.size, 0, none⟩ = some (.slice (some ⟨b, off, none⟩) A.length c) := by rw [hW0]; simp
  have x1 : W0.cell? ⟨w.heap.size, 1, none⟩ = some (.slice (some ⟨qb, qo, none⟩) A.length qc) := by rw [hW0]; simp
  have HW0 := Lib.hid hW0
  have HB0 := Lib.hid hb0
  have HK := Lib.hid (fun wr (h : Below W0.heap.size W0 wr) => show wr.cell? ⟨w.heap.size, 0, none⟩ = some (.slice (some ⟨b, off, none⟩) A.length c) ∧ wr.cell? ⟨w.heap.size, 1, none⟩ = some (.slice (some ⟨qb, qo, none⟩) A.length qc) from
    ⟨(h.cell (p := ⟨w.heap.size, 0, none⟩) hz0).trans x0, (h.cell (p := ⟨w.heap.size, 1, none⟩) hz0).trans x1⟩)
  have HC := Lib.hid hc
  clear hW0 hb0 x0 x1 hA hB hTA hTB bk al bl ae be hc hz0 n5 h1 h2
  rcases hp01 with rfl | rfl
  · have HNONE := Lib.hid (beOut_0n (Z := Z) HC.out)
    have HSOME := Lib.hid (fun L d => beOut_0s (Z := Z) (L := L) (d := d) HC.out)
    have HSH := Lib.hid (fun (w' : World) (h : Below w.heap.size w w') => sharesOf_any _ Z (gcols A) w' (H3.out.below h) (by omega) (by omega))
    generalize beOut A B 0 Z = OUT at *
    go_enter Try.func38, Try.ntmps38
    go_wp2_with fail
    rw [← HW0.out]
    refine (HIS.out _ HB0.out).mono ?_; rintro e w1 ⟨rfl, hb1⟩
    obtain ⟨e0, e1⟩ := HK.out w1 hb1
    have HW1 := Lib.hid (HB0.out.trans (hb1.mono HB0.out.size))
    clear hb1 HIS HW0
    go_wp2_with fail
    refine (playersOf_any _ _ _ _ _ _ w1).mono ?_
    rintro e w2 ⟨rfl, hb2⟩
    have HW2 := Lib.hid (HW1.out.trans (hb2.mono HW1.out.size))
    clear hb2 e0 e1
    go_wp2_with fail
    obtain ⟨W3, hW3⟩ : ∃ W3, W3 = w2.alloc (.cells #[.iface 151 (.slice (some ⟨b, off, none⟩) A.length c), .iface 152 (.slice (some ⟨qb, qo, none⟩) A.length qc)] 105) := ⟨_, rfl⟩
    have hw3 : Below w.heap.size w W3 := by rw [hW3]; exact HW2.out.alloc HW2.out.size _
    have z0 : W3.cell? ⟨w2.heap.size, 0, none⟩ = some (.iface 151 (.slice (some ⟨b, off, none⟩) A.length c)) := by rw [hW3]; simp
    have z1 : W3.cell? ⟨w2.heap.size, 1, none⟩ = some (.iface 152 (.slice (some ⟨qb, qo, none⟩) A.length qc)) := by rw [hW3]; simp
    have hz3 : w2.heap.size < W3.heap.size := by rw [hW3]; simp
    have HW3 := Lib.hid hw3
    have HZ0 := Lib.hid (fun wr (h : Below W3.heap.size W3 wr) => show wr.cell? ⟨w2.heap.size, 0, none⟩ = some (.iface 151 (.slice (some ⟨b, off, none⟩) A.length c)) ∧ wr.cell? ⟨w2.heap.size, 1, none⟩ = some (.iface 152 (.slice (some ⟨qb, qo, none⟩) A.length qc)) from
      ⟨(h.cell (p := ⟨w2.heap.size, 0, none⟩) hz3).trans z0, (h.cell (p := ⟨w2.heap.size, 1, none⟩) hz3).trans z1⟩)
    rw [← hW3]
    clear hW3 z0 z1 hw3
    refine (choices_col _ B (gcols A) _ (H2.out.below HW3.out) (by have := HBK.out; omega) HBL.out).mono ?_
    rintro e w4 ⟨rfl, rfl⟩
    go_wp2_with fail
    refine (HSH.out _ HW3.out).mono ?_
    rintro e w5 (⟨hno, u, rfl, hb5⟩ | ⟨L, d, hso, g, rfl, hF, hb5⟩)
    · have HO := Lib.hid (HNONE.out hno)
      have hw5 : Below w.heap.size w w5 := HW3.out.trans (hb5.mono HW3.out.size)
      clear hno hb5
      go_wp2_with fail
      go_ret2
      rw [HO.out]
      exact outI_nilG hw5
    · obtain ⟨f1, f2, f3, f4⟩ := mix_facts hso
      have HO := Lib.hid (HSOME.out L d hso)
      have HW5 := Lib.hid (HW3.out.trans (hb5.mono HW3.out.size))
      obtain ⟨g0, g1⟩ := HZ0.out w5 hb5
      have hpl : (payL (fun o t => gE A o t) L A.length (gcols A)).length = A.length := by simp [payL]
      have hpay := payoffsAgainst_row b off c A.length (gcols A) (fun o t => gE A o t) _ L w5 (fun w' h => choices_row _ A w' (H1.out.below (HW5.out.trans (h.mono HW5.out.size)))) (fun w' h o t ho ht => gets_row b off c A.length (gcols A) A o t w' (HTA.out.next (HW5.out.trans (h.mono HW5.out.size))) ho ht hk5 hl5) (freshI_ints hF f3) f1 k1 hk5 l1 hl5 (fun o t ho ht => HAE.out o t ho ht) f2
      have hpos : ∀ j, j < (payL (fun o t => gE A o t) L A.length (gcols A)).length → 0 ≤ (payL (fun o t => gE A o t) L A.length (gcols A)).getD j 0 ∧ (payL (fun o t => gE A o t) L A.length (gcols A)).getD j 0 ≤ 100000000000 := fun j hj => by
        rw [hpl] at hj
        have := payTo_bd (G := fun o t => gE A o t) (S := L) (o := j) (m := (gcols A)) (fun t ht => HAE.out j t hj ht) f2 (gcols A) (Nat.le_refl _)
        rw [show (payL (fun o t => gE A o t) L A.length (gcols A)).getD j 0 = payTo (fun o t => gE A o t) L j (gcols A) by simp [payL, hj]]
        omega
      generalize payL (fun o t => gE A o t) L A.length (gcols A) = P at *
      have HRP := Lib.hid (bestReplies_n _ _ P _ w5 hpl (by omega) (by omega) (fun j hj => (hpos j hj).1) (fun x hx => by
        obtain ⟨i, hi, rfl⟩ := List.mem_iff_getElem.1 hx
        have := hpos i hi
        rw [show P.getD i 0 = P[i] by simp [hi]] at this
        unfold I64
        omega) hpay)
      clear hso f1 f2 f3 f4 hF hb5 hpay hpos hpl
      go_wp2_with fail
      refine HRP.out.mono ?_
      rintro e w6 ⟨v, rfl, hF6, hb6⟩
      have HW6 := Lib.hid (HW5.out.trans (hb6.mono HW5.out.size))
      have HF6 := Lib.hid (hF6.mono HW5.out.size)
      clear hF6 hb6
      go_wp2_with fail
      go_ret2
      rw [HO.out]
      exact ⟨_, rfl, HF6.out.rng, HW6.out⟩
  · have HNONE := Lib.hid (beOut_1n (Z := Z) HC.out)
    have HSOME := Lib.hid (fun L d => beOut_1s (Z := Z) (L := L) (d := d) HC.out)
    have HSH := Lib.hid (fun (w' : World) (h : Below w.heap.size w w') => sharesOf_any _ Z A.length w' (H3.out.below h) (by omega) (by omega))
    generalize beOut A B 1 Z = OUT at *
    go_enter Try.func38, Try.ntmps38
    go_wp2_with fail
    rw [← HW0.out]
    refine (HIS.out _ HB0.out).mono ?_; rintro e w1 ⟨rfl, hb1⟩
    obtain ⟨e0, e1⟩ := HK.out w1 hb1
    have HW1 := Lib.hid (HB0.out.trans (hb1.mono HB0.out.size))
    clear hb1 HIS HW0
    go_wp2_with fail
    refine (playersOf_any _ _ _ _ _ _ w1).mono ?_
    rintro e w2 ⟨rfl, hb2⟩
    have HW2 := Lib.hid (HW1.out.trans (hb2.mono HW1.out.size))
    clear hb2 e0 e1
    go_wp2_with fail
    obtain ⟨W3, hW3⟩ : ∃ W3, W3 = w2.alloc (.cells #[.iface 151 (.slice (some ⟨b, off, none⟩) A.length c), .iface 152 (.slice (some ⟨qb, qo, none⟩) A.length qc)] 105) := ⟨_, rfl⟩
    have hw3 : Below w.heap.size w W3 := by rw [hW3]; exact HW2.out.alloc HW2.out.size _
    have z0 : W3.cell? ⟨w2.heap.size, 0, none⟩ = some (.iface 151 (.slice (some ⟨b, off, none⟩) A.length c)) := by rw [hW3]; simp
    have z1 : W3.cell? ⟨w2.heap.size, 1, none⟩ = some (.iface 152 (.slice (some ⟨qb, qo, none⟩) A.length qc)) := by rw [hW3]; simp
    have hz3 : w2.heap.size < W3.heap.size := by rw [hW3]; simp
    have HW3 := Lib.hid hw3
    have HZ0 := Lib.hid (fun wr (h : Below W3.heap.size W3 wr) => show wr.cell? ⟨w2.heap.size, 0, none⟩ = some (.iface 151 (.slice (some ⟨b, off, none⟩) A.length c)) ∧ wr.cell? ⟨w2.heap.size, 1, none⟩ = some (.iface 152 (.slice (some ⟨qb, qo, none⟩) A.length qc)) from
      ⟨(h.cell (p := ⟨w2.heap.size, 0, none⟩) hz3).trans z0, (h.cell (p := ⟨w2.heap.size, 1, none⟩) hz3).trans z1⟩)
    rw [← hW3]
    clear hW3 z0 z1 hw3
    refine (choices_row _ A _ (H1.out.below HW3.out)).mono ?_
    rintro e w4 ⟨rfl, rfl⟩
    go_wp2_with fail
    refine (HSH.out _ HW3.out).mono ?_
    rintro e w5 (⟨hno, u, rfl, hb5⟩ | ⟨L, d, hso, g, rfl, hF, hb5⟩)
    · have HO := Lib.hid (HNONE.out hno)
      have hw5 : Below w.heap.size w w5 := HW3.out.trans (hb5.mono HW3.out.size)
      clear hno hb5
      go_wp2_with fail
      go_ret2
      rw [HO.out]
      exact outI_nilG hw5
    · obtain ⟨f1, f2, f3, f4⟩ := mix_facts hso
      have HO := Lib.hid (HSOME.out L d hso)
      have HW5 := Lib.hid (HW3.out.trans (hb5.mono HW3.out.size))
      obtain ⟨g0, g1⟩ := HZ0.out w5 hb5
      have hpl : (payL (fun o t => gE B t o) L (gcols A) A.length).length = (gcols A) := by simp [payL]
      have hpay := payoffsAgainst_col qb qo qc (gcols A) A.length (fun o t => gE B t o) _ L w5 (fun w' h => choices_col _ B (gcols A) w' (H2.out.below (HW5.out.trans (h.mono HW5.out.size))) (by have := HBK.out; omega) HBL.out) (fun w' h o t ho ht => gets_col qb qo qc A.length (gcols A) B t o w' (HTB.out.next (HW5.out.trans (h.mono HW5.out.size))) ht ho hk5 hl5) (freshI_ints hF f3) f1 l1 hl5 k1 hk5 (fun o t ho ht => HBE.out t o ht ho) f2
      have hpos : ∀ j, j < (payL (fun o t => gE B t o) L (gcols A) A.length).length → 0 ≤ (payL (fun o t => gE B t o) L (gcols A) A.length).getD j 0 ∧ (payL (fun o t => gE B t o) L (gcols A) A.length).getD j 0 ≤ 100000000000 := fun j hj => by
        rw [hpl] at hj
        have := payTo_bd (G := fun o t => gE B t o) (S := L) (o := j) (m := A.length) (fun t ht => HBE.out t j ht hj) f2 A.length (Nat.le_refl _)
        rw [show (payL (fun o t => gE B t o) L (gcols A) A.length).getD j 0 = payTo (fun o t => gE B t o) L j A.length by simp [payL, hj]]
        omega
      generalize payL (fun o t => gE B t o) L (gcols A) A.length = P at *
      have HRP := Lib.hid (bestReplies_n _ _ P _ w5 hpl (by omega) (by omega) (fun j hj => (hpos j hj).1) (fun x hx => by
        obtain ⟨i, hi, rfl⟩ := List.mem_iff_getElem.1 hx
        have := hpos i hi
        rw [show P.getD i 0 = P[i] by simp [hi]] at this
        unfold I64
        omega) hpay)
      clear hso f1 f2 f3 f4 hF hb5 hpay hpos hpl
      go_wp2_with fail
      refine HRP.out.mono ?_
      rintro e w6 ⟨v, rfl, hF6, hb6⟩
      have HW6 := Lib.hid (HW5.out.trans (hb6.mono HW5.out.size))
      have HF6 := Lib.hid (hF6.mono HW5.out.size)
      clear hF6 hb6
      go_wp2_with fail
      go_ret2
      rw [HO.out]
      exact ⟨_, rfl, HF6.out.rng, HW6.out⟩
end Go.Proofs.Ytimcokealhnfhaa.PW
