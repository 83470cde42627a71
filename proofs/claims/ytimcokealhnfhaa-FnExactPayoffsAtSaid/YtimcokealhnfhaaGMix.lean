/-
  Walks: mixes of a player, as whole numbers with their least common denominator, in the program and in the model.
-/
import Derived.Test.YtimcokealhnfhaaVNum
import Derived.Deep.RegionHeld3
namespace Go.Proofs.Ytimcokealhnfhaa.PW
open Go.RowKit Go.Proofs.Ytimcokealhnfhaa
open Go.Proofs.Ytimcokealhnfhaa.PM

def mixOk (xs : List (Int × Int)) : Bool := xs.all fun x => FM.isF x.1 x.2 && decide (0 ≤ x.1)
/-- The whole numbers of a mix of n choices, and their sum. -/
def mixOut (xs : List (Int × Int)) (n : Nat) : Option (List Int × Int) :=
  if xs.length = n ∧ mixOk xs = true then (match comOut xs with
    | none => none
    | some d => if sumNk (xs.map (numI d)) xs.length = d then some (xs.map (numI d), d) else none) else none
theorem mixOut_len {xs : List (Int × Int)} {n : Nat} (h : xs.length ≠ n) : mixOut xs n = none := by unfold mixOut; rw [if_neg (fun c => h c.1)]
theorem mixOut_bad {xs : List (Int × Int)} {n : Nat} (h : mixOk xs = false) : mixOut xs n = none := by unfold mixOut; rw [if_neg (fun c => by rw [h] at c; exact Bool.noConfusion c.2)]
theorem mixOut_ok {xs : List (Int × Int)} {n : Nat} (h : xs.length = n) (h2 : mixOk xs = true) : mixOut xs n = (match comOut xs with
    | none => none
    | some d => if sumNk (xs.map (numI d)) xs.length = d then some (xs.map (numI d), d) else none) := by unfold mixOut; rw [if_pos ⟨h, h2⟩]
theorem mixOk_iff (xs : List (Int × Int)) : mixOk xs = true ↔ ∀ i, i < xs.length → FM.isF (xs.getD i (0, 0)).1 (xs.getD i (0, 0)).2 = true ∧ 0 ≤ (xs.getD i (0, 0)).1 := by
  unfold mixOk
  rw [List.all_eq_true]
  constructor
  · intro h i hi
    have := h _ (getD_mem2 hi)
    rw [Bool.and_eq_true] at this
    exact ⟨this.1, of_decide_eq_true this.2⟩
  · intro h x hx
    obtain ⟨j, hj, rfl⟩ := List.mem_iff_getElem.1 hx
    have := h j hj
    rw [show xs.getD j (0, 0) = xs[j] by simp [hj]] at this
    rw [Bool.and_eq_true]
    exact ⟨this.1, decide_eq_true this.2⟩
theorem fracs_of {xs : List (Int × Int)} (h : ∀ i, i < xs.length → FM.isF (xs.getD i (0, 0)).1 (xs.getD i (0, 0)).2 = true) : fracs xs := by
  intro x hx
  obtain ⟨j, hj, rfl⟩ := List.mem_iff_getElem.1 hx
  have := h j hj
  rwa [show xs.getD j (0, 0) = xs[j] by simp [hj]] at this
/-- What stands when a common denominator is found. -/
theorem comOut_some {xs : List (Int × Int)} {d : Int} (hf : fracs xs) (h : comOut xs = some d) : (1 ≤ d ∧ d ≤ 1000000000) ∧ ∀ x ∈ xs, -1000000000000 ≤ numI d x ∧ numI d x ≤ 1000000000000 := by
  unfold comOut at h
  cases hc : comD 1 xs with
  | none => rw [hc] at h; cases h
  | some e =>
    rw [hc] at h
    simp only at h
    split at h
    · rename_i hn
      obtain rfl : e = d := by simpa using h
      refine ⟨comD_bd xs 1 e (by omega) hf hc, fun x hx => ?_⟩
      have := List.all_eq_true.1 hn x hx
      exact of_decide_eq_true this
    · cases h
/-- The denominators divide the common one. -/
theorem comD_dvd : ∀ (xs : List (Int × Int)) (d e : Int), (1 ≤ d ∧ d ≤ 1000000000) → fracs xs → comD d xs = some e → d ∣ e ∧ ∀ x ∈ xs, x.2 ∣ e
  | [], d, e, _, _, h => by
    obtain rfl : d = e := by simpa [comD] using h
    exact ⟨Int.dvd_refl _, fun x hx => (List.not_mem_nil hx).elim⟩
  | x :: r, d, e, hd, hf, h => by
    unfold comD at h
    split at h
    · cases h
    · rename_i hn
      have hx := FM.isF_yes (hf x (by simp))
      have hst := com_step hd (y := x.2) ⟨hx.2.2.1, hx.2.2.2.1⟩
      obtain ⟨h1, h2⟩ := comD_dvd r _ e ⟨hst.2.2.2.1, by omega⟩ (fun y hy => hf y (by simp [hy])) h
      obtain ⟨q, hq⟩ := FM.gcdI_dvd_left d x.2
      obtain ⟨p, hp⟩ := FM.gcdI_dvd_right d x.2
      have hdq : d.tdiv (FM.gcdI d x.2) = q := by
        have h := Int.mul_tdiv_cancel_left q (show FM.gcdI d x.2 ≠ 0 by omega)
        rwa [← hq] at h
      rw [hdq] at h1
      have hd1 : d ∣ q * x.2 := ⟨p, by
        conv => lhs; rw [hp]
        rw [← Int.mul_assoc, Int.mul_comm q, ← hq]⟩
      exact ⟨Int.dvd_trans hd1 h1, fun y hy => by
        rcases List.mem_cons.1 hy with rfl | hy
        · exact Int.dvd_trans (Int.dvd_mul_left _ _) h1
        · exact h2 y hy⟩

theorem freshI_ints {B : Nat} {w : World} {v : Value} {xs : List Int} (h : FreshI B w v xs) (hx : ∀ x ∈ xs, I64 x) : Ints w v xs := OwnI.ints (show OwnI w v xs from h.owns) hx

set_option maxRecDepth 100000 in
set_option maxHeartbeats 2000000 in
theorem sharesOf_any (v : Value) (xs : List (Int × Int)) (n : Nat) (w : World) (hv : Frs w v xs) (hn1 : 1 ≤ n) (hn5 : n ≤ 5) :
    Calls Try.prog 87 #[v, .int .i64 n] w fun e w' => (mixOut xs n = none ∧ ∃ u, e = .returned (.tuple #[u, .bool false]) ∧ Below w.heap.size w w') ∨
      (∃ L d, mixOut xs n = some (L, d) ∧ ∃ g, e = .returned (.tuple #[.slice (some ⟨g, 0, none⟩) n n, .bool true]) ∧ FreshI w.heap.size w' (.slice (some ⟨g, 0, none⟩) n n) L ∧ Below w.heap.size w w') := by
  by_cases hlen : xs.length = n
  case neg =>
    rw [mixOut_len hlen]
    obtain ⟨a, c, rfl, h1, h2, _⟩ := hv
    have hm := maxLen_le (Nat.le_trans h1 h2)
    have hne : ((xs.length : Int) != (n : Int)) = true := by simp; omega
    clear hlen h1 h2
    go_enter Try.func87, Try.ntmps87
    go_wp2_with fail
    go_ret2
    exact .inl ⟨by simp, _, rfl, Below.refl _ _⟩
  subst hlen
  have hv0 := hv
  have HI6 := Lib.hid hv.i64
  obtain ⟨b, off, c, rfl, hb, hcell⟩ := hv.at_ (by omega)
  have HV := Lib.hid hv0
  have HC := Lib.hid hcell
  have HOKI := Lib.hid (mixOk_iff xs)
  have HBAD := Lib.hid (show mixOk xs = false → mixOut xs xs.length = none from mixOut_bad)
  have HGOOD := Lib.hid (show mixOk xs = true → mixOut xs xs.length = _ from mixOut_ok rfl)
  have HFR := Lib.hid (fun (h : ∀ i, i < xs.length → FM.isF (xs.getD i (0, 0)).1 (xs.getD i (0, 0)).2 = true) => fracs_of h)
  have hnb : xs.length ≤ 1000 := by omega
  have hn0 : 1 ≤ xs.length := by omega
  clear hv hv0 hcell hn1 hn5
  go_enter Try.func87, Try.ntmps87
  go_wp2_with fail
  go_loopw [7, 18] (fun _ i wr => ∃ k : Nat, k ≤ xs.length ∧ i = .int .i64 k ∧ Hid (∀ i, i < k → FM.isF (xs.getD i (0, 0)).1 (xs.getD i (0, 0)).2 = true ∧ 0 ≤ (xs.getD i (0, 0)).1) ∧ Below w.heap.size w wr) (fun _ i _ => xs.length - (intOf i).toNat)
  case atStart => exact ⟨0, Nat.zero_le _, rfl, fun i hi => absurd hi (Nat.not_lt_zero _), Below.refl _ _⟩
  case round =>
    obtain ⟨k, hk, rfl, hgood, hB⟩ := hrel
    have hzr := hB.size
    by_cases hlt : k < xs.length
    · obtain ⟨c1, c2⟩ := HC.out wr hB k hlt
      have hbad : Hid (¬ (FM.isF (xs.getD k (0, 0)).1 (xs.getD k (0, 0)).2 = true ∧ 0 ≤ (xs.getD k (0, 0)).1) → mixOut xs xs.length = none) := fun h => HBAD.out (by
        rw [Bool.eq_false_iff]
        intro c
        exact h (HOKI.out.1 c k hlt))
      have hnx : Hid (FM.isF (xs.getD k (0, 0)).1 (xs.getD k (0, 0)).2 = true ∧ 0 ≤ (xs.getD k (0, 0)).1 → ∀ i, i < k + 1 → FM.isF (xs.getD i (0, 0)).1 (xs.getD i (0, 0)).2 = true ∧ 0 ≤ (xs.getD i (0, 0)).1) := fun h i hi => by
        by_cases e : i = k
        · subst e; exact h
        · exact hgood.out i (by omega)
      generalize (xs.getD k (0, 0)).1 = x at *
      generalize (xs.getD k (0, 0)).2 = z at *
      have HBd := Lib.hid (hB.alloc hzr (.cells #[.int .i64 x, .int .i64 z] 61))
      clear hB
      cases hf : FM.isF x z
      · have HO := Lib.hid (hbad.out (fun c => by rw [hf] at c; exact Bool.noConfusion c.1))
        have HF := Lib.hid hf
        clear hf hbad hnx
        go_wp2_with fail
        refine (FW.implIsFrac_is _ _ _ _ HF.out).mono ?_; rintro e w2 ⟨rfl, hb2⟩; obtain ⟨hc_hb2, hf_hb2⟩ := bcell hb2; have hz_hb2 := hb2.size; (try simp at hz_hb2); (try simp only [Nat.add_one_le_iff] at hz_hb2)
        have HB2 := Lib.hid (HBd.out.trans (hb2.mono (by simp; omega)))
        clear hb2
        go_wp2_with fail
        go_ret2
        exact .inl ⟨HO.out, _, rfl, HB2.out⟩
      have HF := Lib.hid hf
      by_cases hx0 : x < 0
      · have HO := Lib.hid (hbad.out (fun c => by omega))
        clear hf hbad hnx
        go_wp2_with fail
        refine (FW.implIsFrac_is _ _ _ _ HF.out).mono ?_; rintro e w2 ⟨rfl, hb2⟩; obtain ⟨hc_hb2, hf_hb2⟩ := bcell hb2; have hz_hb2 := hb2.size; (try simp at hz_hb2); (try simp only [Nat.add_one_le_iff] at hz_hb2)
        have HB2 := Lib.hid (HBd.out.trans (hb2.mono (by simp; omega)))
        clear hb2
        go_wp2_with fail
        go_ret2
        exact .inl ⟨HO.out, _, rfl, HB2.out⟩
      have HX := Lib.hid (hnx.out ⟨hf, by omega⟩)
      clear hf hbad hnx
      go_wp2_with fail
      refine (FW.implIsFrac_is _ _ _ _ HF.out).mono ?_; rintro e w2 ⟨rfl, hb2⟩; obtain ⟨hc_hb2, hf_hb2⟩ := bcell hb2; have hz_hb2 := hb2.size; (try simp at hz_hb2); (try simp only [Nat.add_one_le_iff] at hz_hb2)
      have HB2 := Lib.hid (HBd.out.trans (hb2.mono (by simp; omega)))
      clear hb2
      go_wp2_with fail
      go_roundw
      case rel => exact ⟨k + 1, by omega, by go_num, HX, HB2.out⟩
      case measure => simp [intOf]; omega
    · obtain rfl : k = xs.length := by omega
      have hok := HOKI.out.2 hgood.out
      have hmo := HGOOD.out hok
      have hfr := HFR.out (fun i hi => (hgood.out i hi).1)
      have HCS := Lib.hid (fun d h => comOut_some (d := d) hfr h)
      have HCN := Lib.hid (commonNums_any _ xs wr (HV.out.below hB) hfr hn0 hnb)
      have HVR := Lib.hid (HV.out.below hB)
      have HMO := Lib.hid hmo
      have HB := Lib.hid hB
      clear hok hmo hfr hgood hB
      go_wp2_with fail
      refine HCN.out.mono ?_
      intro e w2 hco
      unfold ComI at hco
      cases hc : comOut xs with
      | none =>
        rw [hc] at hco HMO
        obtain ⟨rfl, hb2⟩ := hco
        have HNO := Lib.hid (numsInOrder_any (.slice (some ⟨b, off, none⟩) xs.length c) none xs (fun _ => 0) w2 (HVR.out.below hb2) (looks_nil w2 HI6.out) hn0 hnb)
        have HB2 := Lib.hid (HB.out.trans (hb2.mono hzr))
        clear hb2 hc
        go_wp2_with fail
        refine HNO.out.mono ?_
        rintro e w3 ⟨g, rfl, hf, hb3⟩
        have HB3 := Lib.hid (HB2.out.trans (hb3.mono HB2.out.size))
        clear hf hb3
        go_wp2_with fail
        go_ret2
        exact .inl ⟨HMO.out, _, rfl, HB3.out⟩
      | some d =>
        rw [hc] at hco HMO
        obtain ⟨B, rfl, hmap, hBw, hb2⟩ := hco
        obtain ⟨⟨d1, d2⟩, hnb2⟩ := HCS.out d hc
        have HNO := Lib.hid (numsInOrder_any (.slice (some ⟨b, off, none⟩) xs.length c) (some B) xs (numI d) w2 (HVR.out.below hb2) (looks_map hmap HI6.out) hn0 hnb)
        have HB2 := Lib.hid (HB.out.trans (hb2.mono hzr))
        have hsb : ∀ i, i < (xs.map (numI d)).length → -4000000000000000 ≤ (xs.map (numI d)).getD i 0 ∧ (xs.map (numI d)).getD i 0 ≤ 4000000000000000 := fun i hi => by
          have hi' : i < xs.length := by simpa using hi
          have := hnb2 _ (getD_mem2 hi')
          rw [show (xs.map (numI d)).getD i 0 = numI d (xs.getD i (0, 0)) by simp [hi']]
          omega
        have HSB := Lib.hid hsb
        have h64 : ∀ x ∈ xs.map (numI d), I64 x := fun x hx => by
          obtain ⟨y, hy, rfl⟩ := List.mem_map.1 hx
          have := hnb2 y hy
          unfold I64; omega
        have H64 := Lib.hid h64
        clear hb2 hc hmap hnb2 hsb h64
        go_wp2_with fail
        refine HNO.out.mono ?_
        rintro e w3 ⟨g, rfl, hf, hb3⟩
        have HB3 := Lib.hid (HB2.out.trans (hb3.mono HB2.out.size))
        have hso := sumOf_any (.slice (some ⟨g, 0, none⟩) xs.length xs.length) (xs.map (numI d)) w3 ((freshI_ints hf) H64.out) (by simpa using hnb) HSB.out
        rw [show (xs.map (numI d)).length = xs.length by simp] at hso
        have HFI := Lib.hid (hf.mono (show w.heap.size ≤ w2.heap.size from HB2.out.size))
        obtain ⟨S, hS⟩ : ∃ S, S = sumNk (xs.map (numI d)) xs.length := ⟨_, rfl⟩
        rw [← hS] at hso HMO
        have HSO := Lib.hid hso
        clear hso hf hb3 hS
        by_cases hsd : S = d
        · subst hsd
          rw [if_pos rfl] at HMO
          go_wp2_with fail
          refine HSO.out.mono ?_
          rintro e w4 ⟨rfl, rfl⟩
          go_wp2_with fail
          go_ret2
          exact .inr ⟨_, _, HMO.out, g, rfl, HFI.out, HB3.out⟩
        · rw [if_neg hsd] at HMO
          have hsdb : (S == d) = false := by simpa using hsd
          clear hsd
          go_wp2_with fail
          refine HSO.out.mono ?_
          rintro e w4 ⟨rfl, rfl⟩
          go_wp2_with fail
          go_ret2
          exact .inl ⟨HMO.out, _, rfl, HB3.out⟩
end Go.Proofs.Ytimcokealhnfhaa.PW
