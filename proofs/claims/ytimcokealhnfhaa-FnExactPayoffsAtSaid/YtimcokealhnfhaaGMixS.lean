/-
  Walks: mixes of a player in the model.
-/
import Derived.Test.YtimcokealhnfhaaGMix
import Derived.Test.YtimcokealhnfhaaPRoundB
namespace Go.Proofs.Ytimcokealhnfhaa.PW
open Go.RowKit Go.Proofs.Ytimcokealhnfhaa
open Go.Proofs.Ytimcokealhnfhaa.PM

theorem sum_ge {L : List Int} (h : ∀ i, i < L.length → 0 ≤ L.getD i 0) : ∀ k, k ≤ L.length → 0 ≤ sumNk L k ∧ ∀ i, i < k → L.getD i 0 ≤ sumNk L k := by
  intro k
  induction k with
  | zero => intro _; exact ⟨by simp [sumNk_zero], fun i hi => absurd hi (Nat.not_lt_zero _)⟩
  | succ k ih =>
    intro hk
    obtain ⟨h1, h2⟩ := ih (by omega)
    have h3 := h k (by omega)
    rw [sumNk_succ L k (by omega)]
    refine ⟨by omega, fun i hi => ?_⟩
    by_cases e : i = k
    · subst e; omega
    · have := h2 i (by omega); omega
/-- A list with a fraction beyond 1 is no mix. -/
theorem mixOut_big {xs : List (Int × Int)} {n : Nat} (k : Nat) (hk : k < xs.length) (h : (xs.getD k (0, 0)).2 < (xs.getD k (0, 0)).1) : mixOut xs n = none := by
  unfold mixOut
  split
  case isFalse => rfl
  rename_i hc
  have hok := (mixOk_iff xs).1 hc.2
  have hfr := fracs_of (fun i hi => (hok i hi).1)
  cases ho : comOut xs with
  | none => rfl
  | some d =>
    simp only
    split
    case isFalse => rfl
    rename_i hs
    exfalso
    have hbd := (comOut_some hfr ho).1
    have hcd : comD 1 xs = some d := by
      unfold comOut at ho
      cases hd : comD 1 xs with
      | none => rw [hd] at ho; cases ho
      | some e =>
        rw [hd] at ho
        simp only at ho
        split at ho
        · exact ho
        · cases ho
    have hdv := (comD_dvd xs 1 d (by omega) hfr hcd).2
    have hnum : ∀ i, i < xs.length → ∃ q, 1 ≤ q ∧ d = (xs.getD i (0, 0)).2 * q ∧ numI d (xs.getD i (0, 0)) = (xs.getD i (0, 0)).1 * q := fun i hi => by
      obtain ⟨q, hq⟩ := hdv _ (getD_mem2 hi)
      have hx := FM.isF_yes (hok i hi).1
      have e : d.tdiv (xs.getD i (0, 0)).2 = q := by
        rw [hq]
        exact Int.mul_tdiv_cancel_left q (by omega)
      refine ⟨q, ?_, hq, by unfold numI; rw [e]⟩
      rcases Int.lt_or_le q 1 with h | h
      · have : (xs.getD i (0, 0)).2 * q ≤ 0 := Int.mul_nonpos_of_nonneg_of_nonpos (by omega) (by omega)
        omega
      · exact h
    have hL : ∀ i, i < (xs.map (numI d)).length → 0 ≤ (xs.map (numI d)).getD i 0 := fun i hi => by
      have hi' : i < xs.length := by simpa using hi
      rw [show (xs.map (numI d)).getD i 0 = numI d (xs.getD i (0, 0)) by simp [hi']]
      obtain ⟨q, h1, _, h3⟩ := hnum i hi'
      rw [h3]
      exact Int.mul_nonneg (hok i hi').2 (by omega)
    have hge := (sum_ge hL (xs.map (numI d)).length (Nat.le_refl _)).2 k (by simpa using hk)
    rw [show (xs.map (numI d)).length = xs.length by simp, hs, show (xs.map (numI d)).getD k 0 = numI d (xs.getD k (0, 0)) by simp [hk]] at hge
    obtain ⟨q, h1, h2, h3⟩ := hnum k hk
    rw [h3] at hge
    have : ((xs.getD k (0, 0)).2 + 1) * q ≤ (xs.getD k (0, 0)).1 * q := Int.mul_le_mul_of_nonneg_right (by omega) (by omega)
    rw [Int.add_mul, Int.one_mul] at this
    omega

set_option maxRecDepth 100000 in
set_option maxHeartbeats 2000000 in
theorem l07Mix_any (v : Value) (xs : List (Int × Int)) (n : Nat) (most : Int) (w : World) (hv : Frs w v xs) (hn1 : 1 ≤ n) (hn5 : n ≤ 5) (_hm0 : 0 ≤ most) (_hm1 : most ≤ 1000000000) :
    Calls Try.prog 83 #[v, .int .i64 n, .int .i64 most] w fun e w' => (mixOut xs n = none ∧ e = .returned (.tuple #[.slice none 0 0, .int .i64 0, .int .i64 2]) ∧ Below w.heap.size w w') ∨
      (∃ L d, mixOut xs n = some (L, d) ∧ ((most < d ∧ e = .returned (.tuple #[.slice none 0 0, .int .i64 0, .int .i64 3])) ∨ (d ≤ most ∧ ∃ g c, e = .returned (.tuple #[.slice (some ⟨g, 0, none⟩) n c, .int .i64 d, .int .i64 0]) ∧ FreshI w.heap.size w' (.slice (some ⟨g, 0, none⟩) n c) L)) ∧ Below w.heap.size w w') := by
  have hmx : Try.prog.follows .mixedOrders = true := by kernel_rfl
  by_cases hlen : xs.length = n
  case neg =>
    rw [mixOut_len hlen]
    obtain ⟨a, c, rfl, h1, h2, _⟩ := hv
    have hm := maxLen_le (Nat.le_trans h1 h2)
    have hne : ((xs.length : Int) != (n : Int)) = true := by simp; omega
    clear hlen h1 h2
    go_enter Try.func83, Try.ntmps83
    go_wp2_with fail
    go_ret3
    exact .inl ⟨by simp, rfl, Below.refl _ _⟩
  subst hlen
  have hv0 := hv
  obtain ⟨b, off, c, rfl, hb, hcell⟩ := hv.at_ (by omega)
  have HV := Lib.hid hv0
  have HC := Lib.hid hcell
  have HOKI := Lib.hid (mixOk_iff xs)
  have HBAD := Lib.hid (show mixOk xs = false → mixOut xs xs.length = none from mixOut_bad)
  have HBIG := Lib.hid (fun k hk h => mixOut_big (n := xs.length) k (show k < xs.length from hk) h)
  have HGOOD := Lib.hid (show mixOk xs = true → mixOut xs xs.length = _ from mixOut_ok rfl)
  have HFR := Lib.hid (fun (h : ∀ i, i < xs.length → FM.isF (xs.getD i (0, 0)).1 (xs.getD i (0, 0)).2 = true) => fracs_of h)
  have hnb : xs.length ≤ 1000 := by omega
  have hn0 : 1 ≤ xs.length := by omega
  clear hv hv0 hcell hn1 hn5
  go_enter Try.func83, Try.ntmps83
  go_wp2_with fail
  go_loopw [9] (fun i wr => ∃ k : Nat, k ≤ xs.length ∧ i = .int .i64 k ∧ Hid (∀ i, i < k → FM.isF (xs.getD i (0, 0)).1 (xs.getD i (0, 0)).2 = true ∧ 0 ≤ (xs.getD i (0, 0)).1) ∧ Below w.heap.size w wr) (fun i _ => xs.length - (intOf i).toNat)
  case atStart => exact ⟨0, Nat.zero_le _, rfl, fun i hi => absurd hi (Nat.not_lt_zero _), Below.refl _ _⟩
  case round =>
    obtain ⟨k, hk, rfl, hgood, hB⟩ := hrel
    have hzr := hB.size
    by_cases hlt : k < xs.length
    · have hc1 := fun (w' : World) (h : Below wr.heap.size wr w') => (HC.out w' (hB.trans (h.mono hzr)) k hlt).1
      have hc2 := fun (w' : World) (h : Below wr.heap.size wr w') => (HC.out w' (hB.trans (h.mono hzr)) k hlt).2
      have hbad : Hid (¬ (FM.isF (xs.getD k (0, 0)).1 (xs.getD k (0, 0)).2 = true ∧ 0 ≤ (xs.getD k (0, 0)).1) → mixOut xs xs.length = none) := fun h => HBAD.out (by
        rw [Bool.eq_false_iff]
        intro c
        exact h (HOKI.out.1 c k hlt))
      have hbig : Hid ((xs.getD k (0, 0)).2 < (xs.getD k (0, 0)).1 → mixOut xs xs.length = none) := HBIG.out k hlt
      have hnx : Hid (FM.isF (xs.getD k (0, 0)).1 (xs.getD k (0, 0)).2 = true ∧ 0 ≤ (xs.getD k (0, 0)).1 → ∀ i, i < k + 1 → FM.isF (xs.getD i (0, 0)).1 (xs.getD i (0, 0)).2 = true ∧ 0 ≤ (xs.getD i (0, 0)).1) := fun h i hi => by
        by_cases e : i = k
        · subst e; exact h
        · exact hgood.out i (by omega)
      generalize (xs.getD k (0, 0)).1 = x at *
      generalize (xs.getD k (0, 0)).2 = z at *
      have HB := Lib.hid hB
      clear hB
      cases hf : FM.isF x z
      · have HO := Lib.hid (hbad.out (fun c => by rw [hf] at c; exact Bool.noConfusion c.1))
        have HF := Lib.hid hf
        clear hf hbad hnx hbig
        go_wp2_with fail
        rename_i K0 hK0
        refine (wpIn_wide (n := 8)).1 ?_
        refine PR.wpIn_region_inv hmx (by kernel_rfl) (fun listed ac w' =>
            ∃ (b0 b1 b2 b3 b4 b5 b6 b7 b8 b9 b10 b11 b12 b13 b14 b15 b16 b17 b18 b19 b20 b21 b22 b23 b24 b25 b26 : Bool), ((b2 = true → b0 = true ∧ b1 = true) ∧ (b3 = true → b2 = true) ∧ (b4 = true → b3 = true) ∧ (b5 = true → b4 = true) ∧ (b6 = true → b5 = true) ∧ (b7 = true → b6 = true) ∧ (b8 = true → b6 = true) ∧ (b9 = true → b7 = true ∧ b8 = true ∧ b6 = true) ∧ (b10 = true → b9 = true ∧ b6 = true) ∧ (b11 = true → b10 = true ∧ b6 = true) ∧ (b12 = true → b11 = true ∧ b6 = true) ∧ (b13 = true → b6 = true ∧ b12 = true) ∧ (b14 = true → b13 = true) ∧ (b15 = true → b14 = true) ∧ (b16 = true → b14 = true) ∧ (b17 = true → b15 = true ∧ b16 = true ∧ b14 = true) ∧ (b18 = true → b17 = true ∧ b14 = true) ∧ (b19 = true → b18 = true ∧ b14 = true) ∧ (b20 = true → b14 = true) ∧ (b21 = true → b14 = true) ∧ (b22 = true → b20 = true ∧ b21 = true ∧ b14 = true) ∧ (b23 = true → b22 = true ∧ b14 = true) ∧ (b24 = true → b23 = true ∧ b14 = true) ∧ (b25 = true → b19 = true ∧ b24 = true ∧ b14 = true) ∧ (b26 = true → b14 = true ∧ b25 = true)) ∧ listed = #[b0, b1, b2, b3, b4, b5, b6, b7, b8, b9, b10, b11, b12, b13, b14, b15, b16, b17, b18, b19, b20, b21, b22, b23, b24, b25, b26] ∧
              ac = { tmps := #[.slice (some ⟨b, off, none⟩) xs.length c, .int .i64 xs.length, .int .i64 most, undef, undef, undef, u6, u7, u8, .int .i64 k, undef, undef, undef, undef, undef, .slice (some ⟨b, off, none⟩) xs.length c, .int .i64 xs.length, .int .i64 xs.length, .bool false, .int .i64 k, .int .i64 xs.length, .bool true, u22, u23, cond b0 (.slice (some ⟨b, off, none⟩) xs.length c) (u24), cond b1 (.int .i64 k) (u25), cond b2 (.pointer (some ⟨b, off + k * 2, none⟩)) (u26), cond b3 (.agg #[.int .i64 x, .int .i64 z]) (u27), cond b4 (.bool false) (u28), cond b5 (.bool true) (u29), cond b6 (.bool true) (u30), cond b7 (undef) (u31), cond b8 (undef) (u32), cond b9 (undef) (u33), cond b10 (undef) (u34), cond b11 (undef) (u35), cond b12 (undef) (u36), cond b13 (.bool true) (u37), cond b14 (.bool true) (u38), cond b15 (undef) (u39), cond b16 (undef) (u40), cond b17 (undef) (u41), cond b18 (undef) (u42), cond b19 (undef) (u43), cond b20 (undef) (u44), cond b21 (undef) (u45), cond b22 (undef) (u46), cond b23 (undef) (u47), cond b24 (undef) (u48), cond b25 (undef) (u49), cond b26 (.bool true) (u50), undef, undef, undef, undef, undef, undef, undef, undef, undef, undef, undef, undef, undef, undef, undef, undef, undef, undef, undef, undef, undef, undef, undef, undef, undef, undef, undef, undef, undef], defers := [] } ∧ Below wr.heap.size wr w') ?_ ?_ ?_ ?_
        · rintro listed ac w' ⟨b0, b1, b2, b3, b4, b5, b6, b7, b8, b9, b10, b11, b12, b13, b14, b15, b16, b17, b18, b19, b20, b21, b22, b23, b24, b25, b26, _, rfl, _⟩
          rfl
        · rintro listed ac w' ⟨b0, b1, b2, b3, b4, b5, b6, b7, b8, b9, b10, b11, b12, b13, b14, b15, b16, b17, b18, b19, b20, b21, b22, b23, b24, b25, b26, _, rfl, rfl, hR⟩ hall
          have h0 := hall 0 (by simp)
          have h1 := hall 1 (by simp)
          have h2 := hall 2 (by simp)
          have h3 := hall 3 (by simp)
          have h4 := hall 4 (by simp)
          have h5 := hall 5 (by simp)
          have h6 := hall 6 (by simp)
          have h7 := hall 7 (by simp)
          have h8 := hall 8 (by simp)
          have h9 := hall 9 (by simp)
          have h10 := hall 10 (by simp)
          have h11 := hall 11 (by simp)
          have h12 := hall 12 (by simp)
          have h13 := hall 13 (by simp)
          have h14 := hall 14 (by simp)
          have h15 := hall 15 (by simp)
          have h16 := hall 16 (by simp)
          have h17 := hall 17 (by simp)
          have h18 := hall 18 (by simp)
          have h19 := hall 19 (by simp)
          have h20 := hall 20 (by simp)
          have h21 := hall 21 (by simp)
          have h22 := hall 22 (by simp)
          have h23 := hall 23 (by simp)
          have h24 := hall 24 (by simp)
          have h25 := hall 25 (by simp)
          have h26 := hall 26 (by simp)
          simp at h0 h1 h2 h3 h4 h5 h6 h7 h8 h9 h10 h11 h12 h13 h14 h15 h16 h17 h18 h19 h20 h21 h22 h23 h24 h25 h26
          subst h0 h1 h2 h3 h4 h5 h6 h7 h8 h9 h10 h11 h12 h13 h14 h15 h16 h17 h18 h19 h20 h21 h22 h23 h24 h25 h26
          clear hall
          refine hK0 _ _ ?_
          simp only [cond_true]
          have HB9 := Lib.hid (HB.out.trans (hR.mono hzr))
          clear hc1 hc2 hR
          go_wp2_with fail
          go_ret3
          exact .inl ⟨HO.out, rfl, HB9.out⟩
        · exact ⟨false, false, false, false, false, false, false, false, false, false, false, false, false, false, false, false, false, false, false, false, false, false, false, false, false, false, false, by simp, rfl, rfl, (Below.refl _ _).drew⟩
        · rintro listed ac w' i oi ⟨b0, b1, b2, b3, b4, b5, b6, b7, b8, b9, b10, b11, b12, b13, b14, b15, b16, b17, b18, b19, b20, b21, b22, b23, b24, b25, b26, ⟨e2, e3, e4, e5, e6, e7, e8, e9, e10, e11, e12, e13, e14, e15, e16, e17, e18, e19, e20, e21, e22, e23, e24, e25, e26⟩, rfl, rfl, hR⟩ ho hun hdep
          have hi : i < 27 := by simpa using (Array.getElem?_eq_some_iff.1 ho).1
          obtain rfl | rfl | rfl | rfl | rfl | rfl | rfl | rfl | rfl | rfl | rfl | rfl | rfl | rfl | rfl | rfl | rfl | rfl | rfl | rfl | rfl | rfl | rfl | rfl | rfl | rfl | rfl : i = 0 ∨ i = 1 ∨ i = 2 ∨ i = 3 ∨ i = 4 ∨ i = 5 ∨ i = 6 ∨ i = 7 ∨ i = 8 ∨ i = 9 ∨ i = 10 ∨ i = 11 ∨ i = 12 ∨ i = 13 ∨ i = 14 ∨ i = 15 ∨ i = 16 ∨ i = 17 ∨ i = 18 ∨ i = 19 ∨ i = 20 ∨ i = 21 ∨ i = 22 ∨ i = 23 ∨ i = 24 ∨ i = 25 ∨ i = 26 := by omega
          · -- 0
            simp only [List.getElem?_toArray, List.getElem?_cons_zero, Option.some.injEq] at ho
            subst ho
            have hbi : b0 = false := by simpa using hun
            subst hbi
            obtain rfl : b2 = false := Bool.eq_false_iff.2 (fun h => Bool.noConfusion (e2 h).1)
            obtain rfl : b3 = false := Bool.eq_false_iff.2 (fun h => Bool.noConfusion (e3 h))
            obtain rfl : b4 = false := Bool.eq_false_iff.2 (fun h => Bool.noConfusion (e4 h))
            obtain rfl : b5 = false := Bool.eq_false_iff.2 (fun h => Bool.noConfusion (e5 h))
            obtain rfl : b6 = false := Bool.eq_false_iff.2 (fun h => Bool.noConfusion (e6 h))
            obtain rfl : b7 = false := Bool.eq_false_iff.2 (fun h => Bool.noConfusion (e7 h))
            obtain rfl : b8 = false := Bool.eq_false_iff.2 (fun h => Bool.noConfusion (e8 h))
            obtain rfl : b9 = false := Bool.eq_false_iff.2 (fun h => Bool.noConfusion (e9 h).1)
            obtain rfl : b10 = false := Bool.eq_false_iff.2 (fun h => Bool.noConfusion (e10 h).1)
            obtain rfl : b11 = false := Bool.eq_false_iff.2 (fun h => Bool.noConfusion (e11 h).1)
            obtain rfl : b12 = false := Bool.eq_false_iff.2 (fun h => Bool.noConfusion (e12 h).1)
            obtain rfl : b13 = false := Bool.eq_false_iff.2 (fun h => Bool.noConfusion (e13 h).1)
            obtain rfl : b14 = false := Bool.eq_false_iff.2 (fun h => Bool.noConfusion (e14 h))
            obtain rfl : b15 = false := Bool.eq_false_iff.2 (fun h => Bool.noConfusion (e15 h))
            obtain rfl : b16 = false := Bool.eq_false_iff.2 (fun h => Bool.noConfusion (e16 h))
            obtain rfl : b17 = false := Bool.eq_false_iff.2 (fun h => Bool.noConfusion (e17 h).1)
            obtain rfl : b18 = false := Bool.eq_false_iff.2 (fun h => Bool.noConfusion (e18 h).1)
            obtain rfl : b19 = false := Bool.eq_false_iff.2 (fun h => Bool.noConfusion (e19 h).1)
            obtain rfl : b20 = false := Bool.eq_false_iff.2 (fun h => Bool.noConfusion (e20 h))
            obtain rfl : b21 = false := Bool.eq_false_iff.2 (fun h => Bool.noConfusion (e21 h))
            obtain rfl : b22 = false := Bool.eq_false_iff.2 (fun h => Bool.noConfusion (e22 h).1)
            obtain rfl : b23 = false := Bool.eq_false_iff.2 (fun h => Bool.noConfusion (e23 h).1)
            obtain rfl : b24 = false := Bool.eq_false_iff.2 (fun h => Bool.noConfusion (e24 h).1)
            obtain rfl : b25 = false := Bool.eq_false_iff.2 (fun h => Bool.noConfusion (e25 h).1)
            obtain rfl : b26 = false := Bool.eq_false_iff.2 (fun h => Bool.noConfusion (e26 h).1)
            refine wpOpIn_step rfl (fun K hK => ?_)
            clear hun hdep hi
            go_simp
            refine hK _ _ ⟨true, b1, false, false, false, false, false, false, false, false, false, false, false, false, false, false, false, false, false, false, false, false, false, false, false, false, false, ⟨fun h => Bool.noConfusion h, fun h => Bool.noConfusion h, fun h => Bool.noConfusion h, fun h => Bool.noConfusion h, fun h => Bool.noConfusion h, fun h => Bool.noConfusion h, fun h => Bool.noConfusion h, fun h => Bool.noConfusion h, fun h => Bool.noConfusion h, fun h => Bool.noConfusion h, fun h => Bool.noConfusion h, fun h => Bool.noConfusion h, fun h => Bool.noConfusion h, fun h => Bool.noConfusion h, fun h => Bool.noConfusion h, fun h => Bool.noConfusion h, fun h => Bool.noConfusion h, fun h => Bool.noConfusion h, fun h => Bool.noConfusion h, fun h => Bool.noConfusion h, fun h => Bool.noConfusion h, fun h => Bool.noConfusion h, fun h => Bool.noConfusion h, fun h => Bool.noConfusion h, fun h => Bool.noConfusion h⟩, rfl, rfl, hR⟩
          · -- 1
            simp only [List.getElem?_toArray, List.getElem?_cons_succ, List.getElem?_cons_zero, Option.some.injEq] at ho
            subst ho
            have hbi : b1 = false := by simpa using hun
            subst hbi
            obtain rfl : b2 = false := Bool.eq_false_iff.2 (fun h => Bool.noConfusion (e2 h).2)
            obtain rfl : b3 = false := Bool.eq_false_iff.2 (fun h => Bool.noConfusion (e3 h))
            obtain rfl : b4 = false := Bool.eq_false_iff.2 (fun h => Bool.noConfusion (e4 h))
            obtain rfl : b5 = false := Bool.eq_false_iff.2 (fun h => Bool.noConfusion (e5 h))
            obtain rfl : b6 = false := Bool.eq_false_iff.2 (fun h => Bool.noConfusion (e6 h))
            obtain rfl : b7 = false := Bool.eq_false_iff.2 (fun h => Bool.noConfusion (e7 h))
            obtain rfl : b8 = false := Bool.eq_false_iff.2 (fun h => Bool.noConfusion (e8 h))
            obtain rfl : b9 = false := Bool.eq_false_iff.2 (fun h => Bool.noConfusion (e9 h).1)
            obtain rfl : b10 = false := Bool.eq_false_iff.2 (fun h => Bool.noConfusion (e10 h).1)
            obtain rfl : b11 = false := Bool.eq_false_iff.2 (fun h => Bool.noConfusion (e11 h).1)
            obtain rfl : b12 = false := Bool.eq_false_iff.2 (fun h => Bool.noConfusion (e12 h).1)
            obtain rfl : b13 = false := Bool.eq_false_iff.2 (fun h => Bool.noConfusion (e13 h).1)
            obtain rfl : b14 = false := Bool.eq_false_iff.2 (fun h => Bool.noConfusion (e14 h))
            obtain rfl : b15 = false := Bool.eq_false_iff.2 (fun h => Bool.noConfusion (e15 h))
            obtain rfl : b16 = false := Bool.eq_false_iff.2 (fun h => Bool.noConfusion (e16 h))
            obtain rfl : b17 = false := Bool.eq_false_iff.2 (fun h => Bool.noConfusion (e17 h).1)
            obtain rfl : b18 = false := Bool.eq_false_iff.2 (fun h => Bool.noConfusion (e18 h).1)
            obtain rfl : b19 = false := Bool.eq_false_iff.2 (fun h => Bool.noConfusion (e19 h).1)
            obtain rfl : b20 = false := Bool.eq_false_iff.2 (fun h => Bool.noConfusion (e20 h))
            obtain rfl : b21 = false := Bool.eq_false_iff.2 (fun h => Bool.noConfusion (e21 h))
            obtain rfl : b22 = false := Bool.eq_false_iff.2 (fun h => Bool.noConfusion (e22 h).1)
            obtain rfl : b23 = false := Bool.eq_false_iff.2 (fun h => Bool.noConfusion (e23 h).1)
            obtain rfl : b24 = false := Bool.eq_false_iff.2 (fun h => Bool.noConfusion (e24 h).1)
            obtain rfl : b25 = false := Bool.eq_false_iff.2 (fun h => Bool.noConfusion (e25 h).1)
            obtain rfl : b26 = false := Bool.eq_false_iff.2 (fun h => Bool.noConfusion (e26 h).1)
            refine wpOpIn_step rfl (fun K hK => ?_)
            clear hun hdep hi
            go_simp
            refine hK _ _ ⟨b0, true, false, false, false, false, false, false, false, false, false, false, false, false, false, false, false, false, false, false, false, false, false, false, false, false, false, ⟨fun h => Bool.noConfusion h, fun h => Bool.noConfusion h, fun h => Bool.noConfusion h, fun h => Bool.noConfusion h, fun h => Bool.noConfusion h, fun h => Bool.noConfusion h, fun h => Bool.noConfusion h, fun h => Bool.noConfusion h, fun h => Bool.noConfusion h, fun h => Bool.noConfusion h, fun h => Bool.noConfusion h, fun h => Bool.noConfusion h, fun h => Bool.noConfusion h, fun h => Bool.noConfusion h, fun h => Bool.noConfusion h, fun h => Bool.noConfusion h, fun h => Bool.noConfusion h, fun h => Bool.noConfusion h, fun h => Bool.noConfusion h, fun h => Bool.noConfusion h, fun h => Bool.noConfusion h, fun h => Bool.noConfusion h, fun h => Bool.noConfusion h, fun h => Bool.noConfusion h, fun h => Bool.noConfusion h⟩, rfl, rfl, hR⟩
          · -- 2
            simp only [List.getElem?_toArray, List.getElem?_cons_succ, List.getElem?_cons_zero, Option.some.injEq] at ho
            subst ho
            have hbi : b2 = false := by simpa using hun
            subst hbi
            have hd0 : b0 = true := by have := hdep ⟨0, .data⟩ (by simp) rfl; simpa using this
            have hd1 : b1 = true := by have := hdep ⟨1, .data⟩ (by simp) rfl; simpa using this
            subst hd0 hd1
            obtain rfl : b3 = false := Bool.eq_false_iff.2 (fun h => Bool.noConfusion (e3 h))
            obtain rfl : b4 = false := Bool.eq_false_iff.2 (fun h => Bool.noConfusion (e4 h))
            obtain rfl : b5 = false := Bool.eq_false_iff.2 (fun h => Bool.noConfusion (e5 h))
            obtain rfl : b6 = false := Bool.eq_false_iff.2 (fun h => Bool.noConfusion (e6 h))
            obtain rfl : b7 = false := Bool.eq_false_iff.2 (fun h => Bool.noConfusion (e7 h))
            obtain rfl : b8 = false := Bool.eq_false_iff.2 (fun h => Bool.noConfusion (e8 h))
            obtain rfl : b9 = false := Bool.eq_false_iff.2 (fun h => Bool.noConfusion (e9 h).1)
            obtain rfl : b10 = false := Bool.eq_false_iff.2 (fun h => Bool.noConfusion (e10 h).1)
            obtain rfl : b11 = false := Bool.eq_false_iff.2 (fun h => Bool.noConfusion (e11 h).1)
            obtain rfl : b12 = false := Bool.eq_false_iff.2 (fun h => Bool.noConfusion (e12 h).1)
            obtain rfl : b13 = false := Bool.eq_false_iff.2 (fun h => Bool.noConfusion (e13 h).1)
            obtain rfl : b14 = false := Bool.eq_false_iff.2 (fun h => Bool.noConfusion (e14 h))
            obtain rfl : b15 = false := Bool.eq_false_iff.2 (fun h => Bool.noConfusion (e15 h))
            obtain rfl : b16 = false := Bool.eq_false_iff.2 (fun h => Bool.noConfusion (e16 h))
            obtain rfl : b17 = false := Bool.eq_false_iff.2 (fun h => Bool.noConfusion (e17 h).1)
            obtain rfl : b18 = false := Bool.eq_false_iff.2 (fun h => Bool.noConfusion (e18 h).1)
            obtain rfl : b19 = false := Bool.eq_false_iff.2 (fun h => Bool.noConfusion (e19 h).1)
            obtain rfl : b20 = false := Bool.eq_false_iff.2 (fun h => Bool.noConfusion (e20 h))
            obtain rfl : b21 = false := Bool.eq_false_iff.2 (fun h => Bool.noConfusion (e21 h))
            obtain rfl : b22 = false := Bool.eq_false_iff.2 (fun h => Bool.noConfusion (e22 h).1)
            obtain rfl : b23 = false := Bool.eq_false_iff.2 (fun h => Bool.noConfusion (e23 h).1)
            obtain rfl : b24 = false := Bool.eq_false_iff.2 (fun h => Bool.noConfusion (e24 h).1)
            obtain rfl : b25 = false := Bool.eq_false_iff.2 (fun h => Bool.noConfusion (e25 h).1)
            obtain rfl : b26 = false := Bool.eq_false_iff.2 (fun h => Bool.noConfusion (e26 h).1)
            refine wpOpIn_step rfl (fun K hK => ?_)
            clear hun hdep hi
            go_simp
            refine hK _ _ ⟨true, true, true, false, false, false, false, false, false, false, false, false, false, false, false, false, false, false, false, false, false, false, false, false, false, false, false, ⟨fun _ => ⟨rfl, rfl⟩, fun h => Bool.noConfusion h, fun h => Bool.noConfusion h, fun h => Bool.noConfusion h, fun h => Bool.noConfusion h, fun h => Bool.noConfusion h, fun h => Bool.noConfusion h, fun h => Bool.noConfusion h, fun h => Bool.noConfusion h, fun h => Bool.noConfusion h, fun h => Bool.noConfusion h, fun h => Bool.noConfusion h, fun h => Bool.noConfusion h, fun h => Bool.noConfusion h, fun h => Bool.noConfusion h, fun h => Bool.noConfusion h, fun h => Bool.noConfusion h, fun h => Bool.noConfusion h, fun h => Bool.noConfusion h, fun h => Bool.noConfusion h, fun h => Bool.noConfusion h, fun h => Bool.noConfusion h, fun h => Bool.noConfusion h, fun h => Bool.noConfusion h, fun h => Bool.noConfusion h⟩, rfl, rfl, hR⟩
          · -- 3
            simp only [List.getElem?_toArray, List.getElem?_cons_succ, List.getElem?_cons_zero, Option.some.injEq] at ho
            subst ho
            have hbi : b3 = false := by simpa using hun
            subst hbi
            have hd2 : b2 = true := by have := hdep ⟨2, .data⟩ (by simp) rfl; simpa using this
            have hd1 : b1 = true := (e2 hd2).2
            have hd0 : b0 = true := (e2 hd2).1
            subst hd0 hd1 hd2
            obtain rfl : b4 = false := Bool.eq_false_iff.2 (fun h => Bool.noConfusion (e4 h))
            obtain rfl : b5 = false := Bool.eq_false_iff.2 (fun h => Bool.noConfusion (e5 h))
            obtain rfl : b6 = false := Bool.eq_false_iff.2 (fun h => Bool.noConfusion (e6 h))
            obtain rfl : b7 = false := Bool.eq_false_iff.2 (fun h => Bool.noConfusion (e7 h))
            obtain rfl : b8 = false := Bool.eq_false_iff.2 (fun h => Bool.noConfusion (e8 h))
            obtain rfl : b9 = false := Bool.eq_false_iff.2 (fun h => Bool.noConfusion (e9 h).1)
            obtain rfl : b10 = false := Bool.eq_false_iff.2 (fun h => Bool.noConfusion (e10 h).1)
            obtain rfl : b11 = false := Bool.eq_false_iff.2 (fun h => Bool.noConfusion (e11 h).1)
            obtain rfl : b12 = false := Bool.eq_false_iff.2 (fun h => Bool.noConfusion (e12 h).1)
            obtain rfl : b13 = false := Bool.eq_false_iff.2 (fun h => Bool.noConfusion (e13 h).1)
            obtain rfl : b14 = false := Bool.eq_false_iff.2 (fun h => Bool.noConfusion (e14 h))
            obtain rfl : b15 = false := Bool.eq_false_iff.2 (fun h => Bool.noConfusion (e15 h))
            obtain rfl : b16 = false := Bool.eq_false_iff.2 (fun h => Bool.noConfusion (e16 h))
            obtain rfl : b17 = false := Bool.eq_false_iff.2 (fun h => Bool.noConfusion (e17 h).1)
            obtain rfl : b18 = false := Bool.eq_false_iff.2 (fun h => Bool.noConfusion (e18 h).1)
            obtain rfl : b19 = false := Bool.eq_false_iff.2 (fun h => Bool.noConfusion (e19 h).1)
            obtain rfl : b20 = false := Bool.eq_false_iff.2 (fun h => Bool.noConfusion (e20 h))
            obtain rfl : b21 = false := Bool.eq_false_iff.2 (fun h => Bool.noConfusion (e21 h))
            obtain rfl : b22 = false := Bool.eq_false_iff.2 (fun h => Bool.noConfusion (e22 h).1)
            obtain rfl : b23 = false := Bool.eq_false_iff.2 (fun h => Bool.noConfusion (e23 h).1)
            obtain rfl : b24 = false := Bool.eq_false_iff.2 (fun h => Bool.noConfusion (e24 h).1)
            obtain rfl : b25 = false := Bool.eq_false_iff.2 (fun h => Bool.noConfusion (e25 h).1)
            obtain rfl : b26 = false := Bool.eq_false_iff.2 (fun h => Bool.noConfusion (e26 h).1)
            refine wpOpIn_step rfl (fun K hK => ?_)
            clear hun hdep hi
            have t0 := hc1 w' hR
            have t1 := hc2 w' hR
            go_simp
            refine hK _ _ ⟨true, true, true, true, false, false, false, false, false, false, false, false, false, false, false, false, false, false, false, false, false, false, false, false, false, false, false, ⟨fun _ => ⟨rfl, rfl⟩, fun _ => rfl, fun h => Bool.noConfusion h, fun h => Bool.noConfusion h, fun h => Bool.noConfusion h, fun h => Bool.noConfusion h, fun h => Bool.noConfusion h, fun h => Bool.noConfusion h, fun h => Bool.noConfusion h, fun h => Bool.noConfusion h, fun h => Bool.noConfusion h, fun h => Bool.noConfusion h, fun h => Bool.noConfusion h, fun h => Bool.noConfusion h, fun h => Bool.noConfusion h, fun h => Bool.noConfusion h, fun h => Bool.noConfusion h, fun h => Bool.noConfusion h, fun h => Bool.noConfusion h, fun h => Bool.noConfusion h, fun h => Bool.noConfusion h, fun h => Bool.noConfusion h, fun h => Bool.noConfusion h, fun h => Bool.noConfusion h, fun h => Bool.noConfusion h⟩, rfl, rfl, hR⟩
          · -- 4
            simp only [List.getElem?_toArray, List.getElem?_cons_succ, List.getElem?_cons_zero, Option.some.injEq] at ho
            subst ho
            have hbi : b4 = false := by simpa using hun
            subst hbi
            have hd3 : b3 = true := by have := hdep ⟨3, .data⟩ (by simp) rfl; simpa using this
            have hd2 : b2 = true := (e3 hd3)
            have hd1 : b1 = true := (e2 hd2).2
            have hd0 : b0 = true := (e2 hd2).1
            subst hd0 hd1 hd2 hd3
            obtain rfl : b5 = false := Bool.eq_false_iff.2 (fun h => Bool.noConfusion (e5 h))
            obtain rfl : b6 = false := Bool.eq_false_iff.2 (fun h => Bool.noConfusion (e6 h))
            obtain rfl : b7 = false := Bool.eq_false_iff.2 (fun h => Bool.noConfusion (e7 h))
            obtain rfl : b8 = false := Bool.eq_false_iff.2 (fun h => Bool.noConfusion (e8 h))
            obtain rfl : b9 = false := Bool.eq_false_iff.2 (fun h => Bool.noConfusion (e9 h).1)
            obtain rfl : b10 = false := Bool.eq_false_iff.2 (fun h => Bool.noConfusion (e10 h).1)
            obtain rfl : b11 = false := Bool.eq_false_iff.2 (fun h => Bool.noConfusion (e11 h).1)
            obtain rfl : b12 = false := Bool.eq_false_iff.2 (fun h => Bool.noConfusion (e12 h).1)
            obtain rfl : b13 = false := Bool.eq_false_iff.2 (fun h => Bool.noConfusion (e13 h).1)
            obtain rfl : b14 = false := Bool.eq_false_iff.2 (fun h => Bool.noConfusion (e14 h))
            obtain rfl : b15 = false := Bool.eq_false_iff.2 (fun h => Bool.noConfusion (e15 h))
            obtain rfl : b16 = false := Bool.eq_false_iff.2 (fun h => Bool.noConfusion (e16 h))
            obtain rfl : b17 = false := Bool.eq_false_iff.2 (fun h => Bool.noConfusion (e17 h).1)
            obtain rfl : b18 = false := Bool.eq_false_iff.2 (fun h => Bool.noConfusion (e18 h).1)
            obtain rfl : b19 = false := Bool.eq_false_iff.2 (fun h => Bool.noConfusion (e19 h).1)
            obtain rfl : b20 = false := Bool.eq_false_iff.2 (fun h => Bool.noConfusion (e20 h))
            obtain rfl : b21 = false := Bool.eq_false_iff.2 (fun h => Bool.noConfusion (e21 h))
            obtain rfl : b22 = false := Bool.eq_false_iff.2 (fun h => Bool.noConfusion (e22 h).1)
            obtain rfl : b23 = false := Bool.eq_false_iff.2 (fun h => Bool.noConfusion (e23 h).1)
            obtain rfl : b24 = false := Bool.eq_false_iff.2 (fun h => Bool.noConfusion (e24 h).1)
            obtain rfl : b25 = false := Bool.eq_false_iff.2 (fun h => Bool.noConfusion (e25 h).1)
            obtain rfl : b26 = false := Bool.eq_false_iff.2 (fun h => Bool.noConfusion (e26 h).1)
            refine wpOpIn_step rfl (fun K hK => ?_)
            clear hun hdep hi
            go_simp
            refine ⟨trivial, (callsIn_wide.2 (FW.specIsFrac_is x z _ w' HF.out)).mono ?_⟩
            rintro e w'' ⟨rfl, hb⟩
            refine hK _ _ ⟨true, true, true, true, true, false, false, false, false, false, false, false, false, false, false, false, false, false, false, false, false, false, false, false, false, false, false, ⟨fun _ => ⟨rfl, rfl⟩, fun _ => rfl, fun _ => rfl, fun h => Bool.noConfusion h, fun h => Bool.noConfusion h, fun h => Bool.noConfusion h, fun h => Bool.noConfusion h, fun h => Bool.noConfusion h, fun h => Bool.noConfusion h, fun h => Bool.noConfusion h, fun h => Bool.noConfusion h, fun h => Bool.noConfusion h, fun h => Bool.noConfusion h, fun h => Bool.noConfusion h, fun h => Bool.noConfusion h, fun h => Bool.noConfusion h, fun h => Bool.noConfusion h, fun h => Bool.noConfusion h, fun h => Bool.noConfusion h, fun h => Bool.noConfusion h, fun h => Bool.noConfusion h, fun h => Bool.noConfusion h, fun h => Bool.noConfusion h, fun h => Bool.noConfusion h, fun h => Bool.noConfusion h⟩, rfl, rfl, hR.trans (hb.mono hR.size)⟩
          · -- 5
            simp only [List.getElem?_toArray, List.getElem?_cons_succ, List.getElem?_cons_zero, Option.some.injEq] at ho
            subst ho
            have hbi : b5 = false := by simpa using hun
            subst hbi
            have hd4 : b4 = true := by have := hdep ⟨4, .data⟩ (by simp) rfl; simpa using this
            have hd3 : b3 = true := (e4 hd4)
            have hd2 : b2 = true := (e3 hd3)
            have hd1 : b1 = true := (e2 hd2).2
            have hd0 : b0 = true := (e2 hd2).1
            subst hd0 hd1 hd2 hd3 hd4
            obtain rfl : b6 = false := Bool.eq_false_iff.2 (fun h => Bool.noConfusion (e6 h))
            obtain rfl : b7 = false := Bool.eq_false_iff.2 (fun h => Bool.noConfusion (e7 h))
            obtain rfl : b8 = false := Bool.eq_false_iff.2 (fun h => Bool.noConfusion (e8 h))
            obtain rfl : b9 = false := Bool.eq_false_iff.2 (fun h => Bool.noConfusion (e9 h).1)
            obtain rfl : b10 = false := Bool.eq_false_iff.2 (fun h => Bool.noConfusion (e10 h).1)
            obtain rfl : b11 = false := Bool.eq_false_iff.2 (fun h => Bool.noConfusion (e11 h).1)
            obtain rfl : b12 = false := Bool.eq_false_iff.2 (fun h => Bool.noConfusion (e12 h).1)
            obtain rfl : b13 = false := Bool.eq_false_iff.2 (fun h => Bool.noConfusion (e13 h).1)
            obtain rfl : b14 = false := Bool.eq_false_iff.2 (fun h => Bool.noConfusion (e14 h))
            obtain rfl : b15 = false := Bool.eq_false_iff.2 (fun h => Bool.noConfusion (e15 h))
            obtain rfl : b16 = false := Bool.eq_false_iff.2 (fun h => Bool.noConfusion (e16 h))
            obtain rfl : b17 = false := Bool.eq_false_iff.2 (fun h => Bool.noConfusion (e17 h).1)
            obtain rfl : b18 = false := Bool.eq_false_iff.2 (fun h => Bool.noConfusion (e18 h).1)
            obtain rfl : b19 = false := Bool.eq_false_iff.2 (fun h => Bool.noConfusion (e19 h).1)
            obtain rfl : b20 = false := Bool.eq_false_iff.2 (fun h => Bool.noConfusion (e20 h))
            obtain rfl : b21 = false := Bool.eq_false_iff.2 (fun h => Bool.noConfusion (e21 h))
            obtain rfl : b22 = false := Bool.eq_false_iff.2 (fun h => Bool.noConfusion (e22 h).1)
            obtain rfl : b23 = false := Bool.eq_false_iff.2 (fun h => Bool.noConfusion (e23 h).1)
            obtain rfl : b24 = false := Bool.eq_false_iff.2 (fun h => Bool.noConfusion (e24 h).1)
            obtain rfl : b25 = false := Bool.eq_false_iff.2 (fun h => Bool.noConfusion (e25 h).1)
            obtain rfl : b26 = false := Bool.eq_false_iff.2 (fun h => Bool.noConfusion (e26 h).1)
            refine wpOpIn_step rfl (fun K hK => ?_)
            clear hun hdep hi
            go_simp
            refine hK _ _ ⟨true, true, true, true, true, true, false, false, false, false, false, false, false, false, false, false, false, false, false, false, false, false, false, false, false, false, false, ⟨fun _ => ⟨rfl, rfl⟩, fun _ => rfl, fun _ => rfl, fun _ => rfl, fun h => Bool.noConfusion h, fun h => Bool.noConfusion h, fun h => Bool.noConfusion h, fun h => Bool.noConfusion h, fun h => Bool.noConfusion h, fun h => Bool.noConfusion h, fun h => Bool.noConfusion h, fun h => Bool.noConfusion h, fun h => Bool.noConfusion h, fun h => Bool.noConfusion h, fun h => Bool.noConfusion h, fun h => Bool.noConfusion h, fun h => Bool.noConfusion h, fun h => Bool.noConfusion h, fun h => Bool.noConfusion h, fun h => Bool.noConfusion h, fun h => Bool.noConfusion h, fun h => Bool.noConfusion h, fun h => Bool.noConfusion h, fun h => Bool.noConfusion h, fun h => Bool.noConfusion h⟩, rfl, rfl, hR⟩
          · -- 6
            simp only [List.getElem?_toArray, List.getElem?_cons_succ, List.getElem?_cons_zero, Option.some.injEq] at ho
            subst ho
            have hbi : b6 = false := by simpa using hun
            subst hbi
            have hd5 : b5 = true := by have := hdep ⟨5, .data⟩ (by simp) rfl; simpa using this
            have hd4 : b4 = true := (e5 hd5)
            have hd3 : b3 = true := (e4 hd4)
            have hd2 : b2 = true := (e3 hd3)
            have hd1 : b1 = true := (e2 hd2).2
            have hd0 : b0 = true := (e2 hd2).1
            subst hd0 hd1 hd2 hd3 hd4 hd5
            obtain rfl : b7 = false := Bool.eq_false_iff.2 (fun h => Bool.noConfusion (e7 h))
            obtain rfl : b8 = false := Bool.eq_false_iff.2 (fun h => Bool.noConfusion (e8 h))
            obtain rfl : b9 = false := Bool.eq_false_iff.2 (fun h => Bool.noConfusion (e9 h).1)
            obtain rfl : b10 = false := Bool.eq_false_iff.2 (fun h => Bool.noConfusion (e10 h).1)
            obtain rfl : b11 = false := Bool.eq_false_iff.2 (fun h => Bool.noConfusion (e11 h).1)
            obtain rfl : b12 = false := Bool.eq_false_iff.2 (fun h => Bool.noConfusion (e12 h).1)
            obtain rfl : b13 = false := Bool.eq_false_iff.2 (fun h => Bool.noConfusion (e13 h).1)
            obtain rfl : b14 = false := Bool.eq_false_iff.2 (fun h => Bool.noConfusion (e14 h))
            obtain rfl : b15 = false := Bool.eq_false_iff.2 (fun h => Bool.noConfusion (e15 h))
            obtain rfl : b16 = false := Bool.eq_false_iff.2 (fun h => Bool.noConfusion (e16 h))
            obtain rfl : b17 = false := Bool.eq_false_iff.2 (fun h => Bool.noConfusion (e17 h).1)
            obtain rfl : b18 = false := Bool.eq_false_iff.2 (fun h => Bool.noConfusion (e18 h).1)
            obtain rfl : b19 = false := Bool.eq_false_iff.2 (fun h => Bool.noConfusion (e19 h).1)
            obtain rfl : b20 = false := Bool.eq_false_iff.2 (fun h => Bool.noConfusion (e20 h))
            obtain rfl : b21 = false := Bool.eq_false_iff.2 (fun h => Bool.noConfusion (e21 h))
            obtain rfl : b22 = false := Bool.eq_false_iff.2 (fun h => Bool.noConfusion (e22 h).1)
            obtain rfl : b23 = false := Bool.eq_false_iff.2 (fun h => Bool.noConfusion (e23 h).1)
            obtain rfl : b24 = false := Bool.eq_false_iff.2 (fun h => Bool.noConfusion (e24 h).1)
            obtain rfl : b25 = false := Bool.eq_false_iff.2 (fun h => Bool.noConfusion (e25 h).1)
            obtain rfl : b26 = false := Bool.eq_false_iff.2 (fun h => Bool.noConfusion (e26 h).1)
            refine wpOpIn_step rfl (fun K hK => ?_)
            clear hun hdep hi
            go_simp
            refine hK _ _ ⟨true, true, true, true, true, true, true, false, false, false, false, false, false, false, false, false, false, false, false, false, false, false, false, false, false, false, false, ⟨fun _ => ⟨rfl, rfl⟩, fun _ => rfl, fun _ => rfl, fun _ => rfl, fun _ => rfl, fun h => Bool.noConfusion h, fun h => Bool.noConfusion h, fun h => Bool.noConfusion h, fun h => Bool.noConfusion h, fun h => Bool.noConfusion h, fun h => Bool.noConfusion h, fun h => Bool.noConfusion h, fun h => Bool.noConfusion h, fun h => Bool.noConfusion h, fun h => Bool.noConfusion h, fun h => Bool.noConfusion h, fun h => Bool.noConfusion h, fun h => Bool.noConfusion h, fun h => Bool.noConfusion h, fun h => Bool.noConfusion h, fun h => Bool.noConfusion h, fun h => Bool.noConfusion h, fun h => Bool.noConfusion h, fun h => Bool.noConfusion h, fun h => Bool.noConfusion h⟩, rfl, rfl, hR⟩
          · -- 7
            simp only [List.getElem?_toArray, List.getElem?_cons_succ, List.getElem?_cons_zero, Option.some.injEq] at ho
            subst ho
            have hbi : b7 = false := by simpa using hun
            subst hbi
            have hd6 : b6 = true := by have := hdep ⟨6, .guard⟩ (by simp) rfl; simpa using this
            have hd5 : b5 = true := (e6 hd6)
            have hd4 : b4 = true := (e5 hd5)
            have hd3 : b3 = true := (e4 hd4)
            have hd2 : b2 = true := (e3 hd3)
            have hd1 : b1 = true := (e2 hd2).2
            have hd0 : b0 = true := (e2 hd2).1
            subst hd0 hd1 hd2 hd3 hd4 hd5 hd6
            obtain rfl : b9 = false := Bool.eq_false_iff.2 (fun h => Bool.noConfusion (e9 h).1)
            obtain rfl : b10 = false := Bool.eq_false_iff.2 (fun h => Bool.noConfusion (e10 h).1)
            obtain rfl : b11 = false := Bool.eq_false_iff.2 (fun h => Bool.noConfusion (e11 h).1)
            obtain rfl : b12 = false := Bool.eq_false_iff.2 (fun h => Bool.noConfusion (e12 h).1)
            obtain rfl : b13 = false := Bool.eq_false_iff.2 (fun h => Bool.noConfusion (e13 h).2)
            obtain rfl : b14 = false := Bool.eq_false_iff.2 (fun h => Bool.noConfusion (e14 h))
            obtain rfl : b15 = false := Bool.eq_false_iff.2 (fun h => Bool.noConfusion (e15 h))
            obtain rfl : b16 = false := Bool.eq_false_iff.2 (fun h => Bool.noConfusion (e16 h))
            obtain rfl : b17 = false := Bool.eq_false_iff.2 (fun h => Bool.noConfusion (e17 h).1)
            obtain rfl : b18 = false := Bool.eq_false_iff.2 (fun h => Bool.noConfusion (e18 h).1)
            obtain rfl : b19 = false := Bool.eq_false_iff.2 (fun h => Bool.noConfusion (e19 h).1)
            obtain rfl : b20 = false := Bool.eq_false_iff.2 (fun h => Bool.noConfusion (e20 h))
            obtain rfl : b21 = false := Bool.eq_false_iff.2 (fun h => Bool.noConfusion (e21 h))
            obtain rfl : b22 = false := Bool.eq_false_iff.2 (fun h => Bool.noConfusion (e22 h).1)
            obtain rfl : b23 = false := Bool.eq_false_iff.2 (fun h => Bool.noConfusion (e23 h).1)
            obtain rfl : b24 = false := Bool.eq_false_iff.2 (fun h => Bool.noConfusion (e24 h).1)
            obtain rfl : b25 = false := Bool.eq_false_iff.2 (fun h => Bool.noConfusion (e25 h).1)
            obtain rfl : b26 = false := Bool.eq_false_iff.2 (fun h => Bool.noConfusion (e26 h).1)
            refine wpOpIn_step rfl (fun K hK => ?_)
            clear hun hdep hi
            go_simp
            refine hK _ _ ⟨true, true, true, true, true, true, true, true, b8, false, false, false, false, false, false, false, false, false, false, false, false, false, false, false, false, false, false, ⟨fun _ => ⟨rfl, rfl⟩, fun _ => rfl, fun _ => rfl, fun _ => rfl, fun _ => rfl, fun _ => rfl, e8, fun h => Bool.noConfusion h, fun h => Bool.noConfusion h, fun h => Bool.noConfusion h, fun h => Bool.noConfusion h, fun h => Bool.noConfusion h, fun h => Bool.noConfusion h, fun h => Bool.noConfusion h, fun h => Bool.noConfusion h, fun h => Bool.noConfusion h, fun h => Bool.noConfusion h, fun h => Bool.noConfusion h, fun h => Bool.noConfusion h, fun h => Bool.noConfusion h, fun h => Bool.noConfusion h, fun h => Bool.noConfusion h, fun h => Bool.noConfusion h, fun h => Bool.noConfusion h, fun h => Bool.noConfusion h⟩, rfl, rfl, hR⟩
          · -- 8
            simp only [List.getElem?_toArray, List.getElem?_cons_succ, List.getElem?_cons_zero, Option.some.injEq] at ho
            subst ho
            have hbi : b8 = false := by simpa using hun
            subst hbi
            have hd6 : b6 = true := by have := hdep ⟨6, .guard⟩ (by simp) rfl; simpa using this
            have hd5 : b5 = true := (e6 hd6)
            have hd4 : b4 = true := (e5 hd5)
            have hd3 : b3 = true := (e4 hd4)
            have hd2 : b2 = true := (e3 hd3)
            have hd1 : b1 = true := (e2 hd2).2
            have hd0 : b0 = true := (e2 hd2).1
            subst hd0 hd1 hd2 hd3 hd4 hd5 hd6
            obtain rfl : b9 = false := Bool.eq_false_iff.2 (fun h => Bool.noConfusion (e9 h).2.1)
            obtain rfl : b10 = false := Bool.eq_false_iff.2 (fun h => Bool.noConfusion (e10 h).1)
            obtain rfl : b11 = false := Bool.eq_false_iff.2 (fun h => Bool.noConfusion (e11 h).1)
            obtain rfl : b12 = false := Bool.eq_false_iff.2 (fun h => Bool.noConfusion (e12 h).1)
            obtain rfl : b13 = false := Bool.eq_false_iff.2 (fun h => Bool.noConfusion (e13 h).2)
            obtain rfl : b14 = false := Bool.eq_false_iff.2 (fun h => Bool.noConfusion (e14 h))
            obtain rfl : b15 = false := Bool.eq_false_iff.2 (fun h => Bool.noConfusion (e15 h))
            obtain rfl : b16 = false := Bool.eq_false_iff.2 (fun h => Bool.noConfusion (e16 h))
            obtain rfl : b17 = false := Bool.eq_false_iff.2 (fun h => Bool.noConfusion (e17 h).1)
            obtain rfl : b18 = false := Bool.eq_false_iff.2 (fun h => Bool.noConfusion (e18 h).1)
            obtain rfl : b19 = false := Bool.eq_false_iff.2 (fun h => Bool.noConfusion (e19 h).1)
            obtain rfl : b20 = false := Bool.eq_false_iff.2 (fun h => Bool.noConfusion (e20 h))
            obtain rfl : b21 = false := Bool.eq_false_iff.2 (fun h => Bool.noConfusion (e21 h))
            obtain rfl : b22 = false := Bool.eq_false_iff.2 (fun h => Bool.noConfusion (e22 h).1)
            obtain rfl : b23 = false := Bool.eq_false_iff.2 (fun h => Bool.noConfusion (e23 h).1)
            obtain rfl : b24 = false := Bool.eq_false_iff.2 (fun h => Bool.noConfusion (e24 h).1)
            obtain rfl : b25 = false := Bool.eq_false_iff.2 (fun h => Bool.noConfusion (e25 h).1)
            obtain rfl : b26 = false := Bool.eq_false_iff.2 (fun h => Bool.noConfusion (e26 h).1)
            refine wpOpIn_step rfl (fun K hK => ?_)
            clear hun hdep hi
            go_simp
            refine hK _ _ ⟨true, true, true, true, true, true, true, b7, true, false, false, false, false, false, false, false, false, false, false, false, false, false, false, false, false, false, false, ⟨fun _ => ⟨rfl, rfl⟩, fun _ => rfl, fun _ => rfl, fun _ => rfl, fun _ => rfl, e7, fun _ => rfl, fun h => Bool.noConfusion h, fun h => Bool.noConfusion h, fun h => Bool.noConfusion h, fun h => Bool.noConfusion h, fun h => Bool.noConfusion h, fun h => Bool.noConfusion h, fun h => Bool.noConfusion h, fun h => Bool.noConfusion h, fun h => Bool.noConfusion h, fun h => Bool.noConfusion h, fun h => Bool.noConfusion h, fun h => Bool.noConfusion h, fun h => Bool.noConfusion h, fun h => Bool.noConfusion h, fun h => Bool.noConfusion h, fun h => Bool.noConfusion h, fun h => Bool.noConfusion h, fun h => Bool.noConfusion h⟩, rfl, rfl, hR⟩
          · -- 9
            simp only [List.getElem?_toArray, List.getElem?_cons_succ, List.getElem?_cons_zero, Option.some.injEq] at ho
            subst ho
            have hbi : b9 = false := by simpa using hun
            subst hbi
            have hd6 : b6 = true := by have := hdep ⟨6, .guard⟩ (by simp) rfl; simpa using this
            have hd7 : b7 = true := by have := hdep ⟨7, .data⟩ (by simp) rfl; simpa using this
            have hd8 : b8 = true := by have := hdep ⟨8, .data⟩ (by simp) rfl; simpa using this
            have hd5 : b5 = true := (e6 hd6)
            have hd4 : b4 = true := (e5 hd5)
            have hd3 : b3 = true := (e4 hd4)
            have hd2 : b2 = true := (e3 hd3)
            have hd1 : b1 = true := (e2 hd2).2
            have hd0 : b0 = true := (e2 hd2).1
            subst hd0 hd1 hd2 hd3 hd4 hd5 hd6 hd7 hd8
            obtain rfl : b10 = false := Bool.eq_false_iff.2 (fun h => Bool.noConfusion (e10 h).1)
            obtain rfl : b11 = false := Bool.eq_false_iff.2 (fun h => Bool.noConfusion (e11 h).1)
            obtain rfl : b12 = false := Bool.eq_false_iff.2 (fun h => Bool.noConfusion (e12 h).1)
            obtain rfl : b13 = false := Bool.eq_false_iff.2 (fun h => Bool.noConfusion (e13 h).2)
            obtain rfl : b14 = false := Bool.eq_false_iff.2 (fun h => Bool.noConfusion (e14 h))
            obtain rfl : b15 = false := Bool.eq_false_iff.2 (fun h => Bool.noConfusion (e15 h))
            obtain rfl : b16 = false := Bool.eq_false_iff.2 (fun h => Bool.noConfusion (e16 h))
            obtain rfl : b17 = false := Bool.eq_false_iff.2 (fun h => Bool.noConfusion (e17 h).1)
            obtain rfl : b18 = false := Bool.eq_false_iff.2 (fun h => Bool.noConfusion (e18 h).1)
            obtain rfl : b19 = false := Bool.eq_false_iff.2 (fun h => Bool.noConfusion (e19 h).1)
            obtain rfl : b20 = false := Bool.eq_false_iff.2 (fun h => Bool.noConfusion (e20 h))
            obtain rfl : b21 = false := Bool.eq_false_iff.2 (fun h => Bool.noConfusion (e21 h))
            obtain rfl : b22 = false := Bool.eq_false_iff.2 (fun h => Bool.noConfusion (e22 h).1)
            obtain rfl : b23 = false := Bool.eq_false_iff.2 (fun h => Bool.noConfusion (e23 h).1)
            obtain rfl : b24 = false := Bool.eq_false_iff.2 (fun h => Bool.noConfusion (e24 h).1)
            obtain rfl : b25 = false := Bool.eq_false_iff.2 (fun h => Bool.noConfusion (e25 h).1)
            obtain rfl : b26 = false := Bool.eq_false_iff.2 (fun h => Bool.noConfusion (e26 h).1)
            refine wpOpIn_step rfl (fun K hK => ?_)
            clear hun hdep hi
            go_simp
            refine hK _ _ ⟨true, true, true, true, true, true, true, true, true, true, false, false, false, false, false, false, false, false, false, false, false, false, false, false, false, false, false, ⟨fun _ => ⟨rfl, rfl⟩, fun _ => rfl, fun _ => rfl, fun _ => rfl, fun _ => rfl, fun _ => rfl, fun _ => rfl, fun _ => ⟨rfl, rfl, rfl⟩, fun h => Bool.noConfusion h, fun h => Bool.noConfusion h, fun h => Bool.noConfusion h, fun h => Bool.noConfusion h, fun h => Bool.noConfusion h, fun h => Bool.noConfusion h, fun h => Bool.noConfusion h, fun h => Bool.noConfusion h, fun h => Bool.noConfusion h, fun h => Bool.noConfusion h, fun h => Bool.noConfusion h, fun h => Bool.noConfusion h, fun h => Bool.noConfusion h, fun h => Bool.noConfusion h, fun h => Bool.noConfusion h, fun h => Bool.noConfusion h, fun h => Bool.noConfusion h⟩, rfl, rfl, hR⟩
          · -- 10
            simp only [List.getElem?_toArray, List.getElem?_cons_succ, List.getElem?_cons_zero, Option.some.injEq] at ho
            subst ho
            have hbi : b10 = false := by simpa using hun
            subst hbi
            have hd6 : b6 = true := by have := hdep ⟨6, .guard⟩ (by simp) rfl; simpa using this
            have hd9 : b9 = true := by have := hdep ⟨9, .data⟩ (by simp) rfl; simpa using this
            have hd8 : b8 = true := (e9 hd9).2.1
            have hd7 : b7 = true := (e9 hd9).1
            have hd5 : b5 = true := (e6 hd6)
            have hd4 : b4 = true := (e5 hd5)
            have hd3 : b3 = true := (e4 hd4)
            have hd2 : b2 = true := (e3 hd3)
            have hd1 : b1 = true := (e2 hd2).2
            have hd0 : b0 = true := (e2 hd2).1
            subst hd0 hd1 hd2 hd3 hd4 hd5 hd6 hd7 hd8 hd9
            obtain rfl : b11 = false := Bool.eq_false_iff.2 (fun h => Bool.noConfusion (e11 h).1)
            obtain rfl : b12 = false := Bool.eq_false_iff.2 (fun h => Bool.noConfusion (e12 h).1)
            obtain rfl : b13 = false := Bool.eq_false_iff.2 (fun h => Bool.noConfusion (e13 h).2)
            obtain rfl : b14 = false := Bool.eq_false_iff.2 (fun h => Bool.noConfusion (e14 h))
            obtain rfl : b15 = false := Bool.eq_false_iff.2 (fun h => Bool.noConfusion (e15 h))
            obtain rfl : b16 = false := Bool.eq_false_iff.2 (fun h => Bool.noConfusion (e16 h))
            obtain rfl : b17 = false := Bool.eq_false_iff.2 (fun h => Bool.noConfusion (e17 h).1)
            obtain rfl : b18 = false := Bool.eq_false_iff.2 (fun h => Bool.noConfusion (e18 h).1)
            obtain rfl : b19 = false := Bool.eq_false_iff.2 (fun h => Bool.noConfusion (e19 h).1)
            obtain rfl : b20 = false := Bool.eq_false_iff.2 (fun h => Bool.noConfusion (e20 h))
            obtain rfl : b21 = false := Bool.eq_false_iff.2 (fun h => Bool.noConfusion (e21 h))
            obtain rfl : b22 = false := Bool.eq_false_iff.2 (fun h => Bool.noConfusion (e22 h).1)
            obtain rfl : b23 = false := Bool.eq_false_iff.2 (fun h => Bool.noConfusion (e23 h).1)
            obtain rfl : b24 = false := Bool.eq_false_iff.2 (fun h => Bool.noConfusion (e24 h).1)
            obtain rfl : b25 = false := Bool.eq_false_iff.2 (fun h => Bool.noConfusion (e25 h).1)
            obtain rfl : b26 = false := Bool.eq_false_iff.2 (fun h => Bool.noConfusion (e26 h).1)
            refine wpOpIn_step rfl (fun K hK => ?_)
            clear hun hdep hi
            go_simp
            refine hK _ _ ⟨true, true, true, true, true, true, true, true, true, true, true, false, false, false, false, false, false, false, false, false, false, false, false, false, false, false, false, ⟨fun _ => ⟨rfl, rfl⟩, fun _ => rfl, fun _ => rfl, fun _ => rfl, fun _ => rfl, fun _ => rfl, fun _ => rfl, fun _ => ⟨rfl, rfl, rfl⟩, fun _ => ⟨rfl, rfl⟩, fun h => Bool.noConfusion h, fun h => Bool.noConfusion h, fun h => Bool.noConfusion h, fun h => Bool.noConfusion h, fun h => Bool.noConfusion h, fun h => Bool.noConfusion h, fun h => Bool.noConfusion h, fun h => Bool.noConfusion h, fun h => Bool.noConfusion h, fun h => Bool.noConfusion h, fun h => Bool.noConfusion h, fun h => Bool.noConfusion h, fun h => Bool.noConfusion h, fun h => Bool.noConfusion h, fun h => Bool.noConfusion h, fun h => Bool.noConfusion h⟩, rfl, rfl, hR⟩
          · -- 11
            simp only [List.getElem?_toArray, List.getElem?_cons_succ, List.getElem?_cons_zero, Option.some.injEq] at ho
            subst ho
            have hbi : b11 = false := by simpa using hun
            subst hbi
            have hd6 : b6 = true := by have := hdep ⟨6, .guard⟩ (by simp) rfl; simpa using this
            have hd10 : b10 = true := by have := hdep ⟨10, .data⟩ (by simp) rfl; simpa using this
            have hd9 : b9 = true := (e10 hd10).1
            have hd8 : b8 = true := (e9 hd9).2.1
            have hd7 : b7 = true := (e9 hd9).1
            have hd5 : b5 = true := (e6 hd6)
            have hd4 : b4 = true := (e5 hd5)
            have hd3 : b3 = true := (e4 hd4)
            have hd2 : b2 = true := (e3 hd3)
            have hd1 : b1 = true := (e2 hd2).2
            have hd0 : b0 = true := (e2 hd2).1
            subst hd0 hd1 hd2 hd3 hd4 hd5 hd6 hd7 hd8 hd9 hd10
            obtain rfl : b12 = false := Bool.eq_false_iff.2 (fun h => Bool.noConfusion (e12 h).1)
            obtain rfl : b13 = false := Bool.eq_false_iff.2 (fun h => Bool.noConfusion (e13 h).2)
            obtain rfl : b14 = false := Bool.eq_false_iff.2 (fun h => Bool.noConfusion (e14 h))
            obtain rfl : b15 = false := Bool.eq_false_iff.2 (fun h => Bool.noConfusion (e15 h))
            obtain rfl : b16 = false := Bool.eq_false_iff.2 (fun h => Bool.noConfusion (e16 h))
            obtain rfl : b17 = false := Bool.eq_false_iff.2 (fun h => Bool.noConfusion (e17 h).1)
            obtain rfl : b18 = false := Bool.eq_false_iff.2 (fun h => Bool.noConfusion (e18 h).1)
            obtain rfl : b19 = false := Bool.eq_false_iff.2 (fun h => Bool.noConfusion (e19 h).1)
            obtain rfl : b20 = false := Bool.eq_false_iff.2 (fun h => Bool.noConfusion (e20 h))
            obtain rfl : b21 = false := Bool.eq_false_iff.2 (fun h => Bool.noConfusion (e21 h))
            obtain rfl : b22 = false := Bool.eq_false_iff.2 (fun h => Bool.noConfusion (e22 h).1)
            obtain rfl : b23 = false := Bool.eq_false_iff.2 (fun h => Bool.noConfusion (e23 h).1)
            obtain rfl : b24 = false := Bool.eq_false_iff.2 (fun h => Bool.noConfusion (e24 h).1)
            obtain rfl : b25 = false := Bool.eq_false_iff.2 (fun h => Bool.noConfusion (e25 h).1)
            obtain rfl : b26 = false := Bool.eq_false_iff.2 (fun h => Bool.noConfusion (e26 h).1)
            refine wpOpIn_step rfl (fun K hK => ?_)
            clear hun hdep hi
            go_simp
            refine hK _ _ ⟨true, true, true, true, true, true, true, true, true, true, true, true, false, false, false, false, false, false, false, false, false, false, false, false, false, false, false, ⟨fun _ => ⟨rfl, rfl⟩, fun _ => rfl, fun _ => rfl, fun _ => rfl, fun _ => rfl, fun _ => rfl, fun _ => rfl, fun _ => ⟨rfl, rfl, rfl⟩, fun _ => ⟨rfl, rfl⟩, fun _ => ⟨rfl, rfl⟩, fun h => Bool.noConfusion h, fun h => Bool.noConfusion h, fun h => Bool.noConfusion h, fun h => Bool.noConfusion h, fun h => Bool.noConfusion h, fun h => Bool.noConfusion h, fun h => Bool.noConfusion h, fun h => Bool.noConfusion h, fun h => Bool.noConfusion h, fun h => Bool.noConfusion h, fun h => Bool.noConfusion h, fun h => Bool.noConfusion h, fun h => Bool.noConfusion h, fun h => Bool.noConfusion h, fun h => Bool.noConfusion h⟩, rfl, rfl, hR⟩
          · -- 12
            simp only [List.getElem?_toArray, List.getElem?_cons_succ, List.getElem?_cons_zero, Option.some.injEq] at ho
            subst ho
            have hbi : b12 = false := by simpa using hun
            subst hbi
            have hd6 : b6 = true := by have := hdep ⟨6, .guard⟩ (by simp) rfl; simpa using this
            have hd11 : b11 = true := by have := hdep ⟨11, .data⟩ (by simp) rfl; simpa using this
            have hd10 : b10 = true := (e11 hd11).1
            have hd9 : b9 = true := (e10 hd10).1
            have hd8 : b8 = true := (e9 hd9).2.1
            have hd7 : b7 = true := (e9 hd9).1
            have hd5 : b5 = true := (e6 hd6)
            have hd4 : b4 = true := (e5 hd5)
            have hd3 : b3 = true := (e4 hd4)
            have hd2 : b2 = true := (e3 hd3)
            have hd1 : b1 = true := (e2 hd2).2
            have hd0 : b0 = true := (e2 hd2).1
            subst hd0 hd1 hd2 hd3 hd4 hd5 hd6 hd7 hd8 hd9 hd10 hd11
            obtain rfl : b13 = false := Bool.eq_false_iff.2 (fun h => Bool.noConfusion (e13 h).2)
            obtain rfl : b14 = false := Bool.eq_false_iff.2 (fun h => Bool.noConfusion (e14 h))
            obtain rfl : b15 = false := Bool.eq_false_iff.2 (fun h => Bool.noConfusion (e15 h))
            obtain rfl : b16 = false := Bool.eq_false_iff.2 (fun h => Bool.noConfusion (e16 h))
            obtain rfl : b17 = false := Bool.eq_false_iff.2 (fun h => Bool.noConfusion (e17 h).1)
            obtain rfl : b18 = false := Bool.eq_false_iff.2 (fun h => Bool.noConfusion (e18 h).1)
            obtain rfl : b19 = false := Bool.eq_false_iff.2 (fun h => Bool.noConfusion (e19 h).1)
            obtain rfl : b20 = false := Bool.eq_false_iff.2 (fun h => Bool.noConfusion (e20 h))
            obtain rfl : b21 = false := Bool.eq_false_iff.2 (fun h => Bool.noConfusion (e21 h))
            obtain rfl : b22 = false := Bool.eq_false_iff.2 (fun h => Bool.noConfusion (e22 h).1)
            obtain rfl : b23 = false := Bool.eq_false_iff.2 (fun h => Bool.noConfusion (e23 h).1)
            obtain rfl : b24 = false := Bool.eq_false_iff.2 (fun h => Bool.noConfusion (e24 h).1)
            obtain rfl : b25 = false := Bool.eq_false_iff.2 (fun h => Bool.noConfusion (e25 h).1)
            obtain rfl : b26 = false := Bool.eq_false_iff.2 (fun h => Bool.noConfusion (e26 h).1)
            refine wpOpIn_step rfl (fun K hK => ?_)
            clear hun hdep hi
            go_simp
            refine hK _ _ ⟨true, true, true, true, true, true, true, true, true, true, true, true, true, false, false, false, false, false, false, false, false, false, false, false, false, false, false, ⟨fun _ => ⟨rfl, rfl⟩, fun _ => rfl, fun _ => rfl, fun _ => rfl, fun _ => rfl, fun _ => rfl, fun _ => rfl, fun _ => ⟨rfl, rfl, rfl⟩, fun _ => ⟨rfl, rfl⟩, fun _ => ⟨rfl, rfl⟩, fun _ => ⟨rfl, rfl⟩, fun h => Bool.noConfusion h, fun h => Bool.noConfusion h, fun h => Bool.noConfusion h, fun h => Bool.noConfusion h, fun h => Bool.noConfusion h, fun h => Bool.noConfusion h, fun h => Bool.noConfusion h, fun h => Bool.noConfusion h, fun h => Bool.noConfusion h, fun h => Bool.noConfusion h, fun h => Bool.noConfusion h, fun h => Bool.noConfusion h, fun h => Bool.noConfusion h, fun h => Bool.noConfusion h⟩, rfl, rfl, hR⟩
          · -- 13
            simp only [List.getElem?_toArray, List.getElem?_cons_succ, List.getElem?_cons_zero, Option.some.injEq] at ho
            subst ho
            have hbi : b13 = false := by simpa using hun
            subst hbi
            have hd6 : b6 = true := by have := hdep ⟨6, .data⟩ (by simp) rfl; simpa using this
            have hd12 : b12 = true := by have := hdep ⟨12, .data⟩ (by simp) rfl; simpa using this
            have hd11 : b11 = true := (e12 hd12).1
            have hd10 : b10 = true := (e11 hd11).1
            have hd9 : b9 = true := (e10 hd10).1
            have hd8 : b8 = true := (e9 hd9).2.1
            have hd7 : b7 = true := (e9 hd9).1
            have hd5 : b5 = true := (e6 hd6)
            have hd4 : b4 = true := (e5 hd5)
            have hd3 : b3 = true := (e4 hd4)
            have hd2 : b2 = true := (e3 hd3)
            have hd1 : b1 = true := (e2 hd2).2
            have hd0 : b0 = true := (e2 hd2).1
            subst hd0 hd1 hd2 hd3 hd4 hd5 hd6 hd7 hd8 hd9 hd10 hd11 hd12
            obtain rfl : b14 = false := Bool.eq_false_iff.2 (fun h => Bool.noConfusion (e14 h))
            obtain rfl : b15 = false := Bool.eq_false_iff.2 (fun h => Bool.noConfusion (e15 h))
            obtain rfl : b16 = false := Bool.eq_false_iff.2 (fun h => Bool.noConfusion (e16 h))
            obtain rfl : b17 = false := Bool.eq_false_iff.2 (fun h => Bool.noConfusion (e17 h).1)
            obtain rfl : b18 = false := Bool.eq_false_iff.2 (fun h => Bool.noConfusion (e18 h).1)
            obtain rfl : b19 = false := Bool.eq_false_iff.2 (fun h => Bool.noConfusion (e19 h).1)
            obtain rfl : b20 = false := Bool.eq_false_iff.2 (fun h => Bool.noConfusion (e20 h))
            obtain rfl : b21 = false := Bool.eq_false_iff.2 (fun h => Bool.noConfusion (e21 h))
            obtain rfl : b22 = false := Bool.eq_false_iff.2 (fun h => Bool.noConfusion (e22 h).1)
            obtain rfl : b23 = false := Bool.eq_false_iff.2 (fun h => Bool.noConfusion (e23 h).1)
            obtain rfl : b24 = false := Bool.eq_false_iff.2 (fun h => Bool.noConfusion (e24 h).1)
            obtain rfl : b25 = false := Bool.eq_false_iff.2 (fun h => Bool.noConfusion (e25 h).1)
            obtain rfl : b26 = false := Bool.eq_false_iff.2 (fun h => Bool.noConfusion (e26 h).1)
            refine wpOpIn_step rfl (fun K hK => ?_)
            clear hun hdep hi
            go_simp
            refine hK _ _ ⟨true, true, true, true, true, true, true, true, true, true, true, true, true, true, false, false, false, false, false, false, false, false, false, false, false, false, false, ⟨fun _ => ⟨rfl, rfl⟩, fun _ => rfl, fun _ => rfl, fun _ => rfl, fun _ => rfl, fun _ => rfl, fun _ => rfl, fun _ => ⟨rfl, rfl, rfl⟩, fun _ => ⟨rfl, rfl⟩, fun _ => ⟨rfl, rfl⟩, fun _ => ⟨rfl, rfl⟩, fun _ => ⟨rfl, rfl⟩, fun h => Bool.noConfusion h, fun h => Bool.noConfusion h, fun h => Bool.noConfusion h, fun h => Bool.noConfusion h, fun h => Bool.noConfusion h, fun h => Bool.noConfusion h, fun h => Bool.noConfusion h, fun h => Bool.noConfusion h, fun h => Bool.noConfusion h, fun h => Bool.noConfusion h, fun h => Bool.noConfusion h, fun h => Bool.noConfusion h, fun h => Bool.noConfusion h⟩, rfl, rfl, hR⟩
          · -- 14
            simp only [List.getElem?_toArray, List.getElem?_cons_succ, List.getElem?_cons_zero, Option.some.injEq] at ho
            subst ho
            have hbi : b14 = false := by simpa using hun
            subst hbi
            have hd13 : b13 = true := by have := hdep ⟨13, .data⟩ (by simp) rfl; simpa using this
            have hd12 : b12 = true := (e13 hd13).2
            have hd11 : b11 = true := (e12 hd12).1
            have hd10 : b10 = true := (e11 hd11).1
            have hd9 : b9 = true := (e10 hd10).1
            have hd8 : b8 = true := (e9 hd9).2.1
            have hd7 : b7 = true := (e9 hd9).1
            have hd6 : b6 = true := (e7 hd7)
            have hd5 : b5 = true := (e6 hd6)
            have hd4 : b4 = true := (e5 hd5)
            have hd3 : b3 = true := (e4 hd4)
            have hd2 : b2 = true := (e3 hd3)
            have hd1 : b1 = true := (e2 hd2).2
            have hd0 : b0 = true := (e2 hd2).1
            subst hd0 hd1 hd2 hd3 hd4 hd5 hd6 hd7 hd8 hd9 hd10 hd11 hd12 hd13
            obtain rfl : b15 = false := Bool.eq_false_iff.2 (fun h => Bool.noConfusion (e15 h))
            obtain rfl : b16 = false := Bool.eq_false_iff.2 (fun h => Bool.noConfusion (e16 h))
            obtain rfl : b17 = false := Bool.eq_false_iff.2 (fun h => Bool.noConfusion (e17 h).1)
            obtain rfl : b18 = false := Bool.eq_false_iff.2 (fun h => Bool.noConfusion (e18 h).1)
            obtain rfl : b19 = false := Bool.eq_false_iff.2 (fun h => Bool.noConfusion (e19 h).1)
            obtain rfl : b20 = false := Bool.eq_false_iff.2 (fun h => Bool.noConfusion (e20 h))
            obtain rfl : b21 = false := Bool.eq_false_iff.2 (fun h => Bool.noConfusion (e21 h))
            obtain rfl : b22 = false := Bool.eq_false_iff.2 (fun h => Bool.noConfusion (e22 h).1)
            obtain rfl : b23 = false := Bool.eq_false_iff.2 (fun h => Bool.noConfusion (e23 h).1)
            obtain rfl : b24 = false := Bool.eq_false_iff.2 (fun h => Bool.noConfusion (e24 h).1)
            obtain rfl : b25 = false := Bool.eq_false_iff.2 (fun h => Bool.noConfusion (e25 h).1)
            obtain rfl : b26 = false := Bool.eq_false_iff.2 (fun h => Bool.noConfusion (e26 h).1)
            refine wpOpIn_step rfl (fun K hK => ?_)
            clear hun hdep hi
            go_simp
            refine hK _ _ ⟨true, true, true, true, true, true, true, true, true, true, true, true, true, true, true, false, false, false, false, false, false, false, false, false, false, false, false, ⟨fun _ => ⟨rfl, rfl⟩, fun _ => rfl, fun _ => rfl, fun _ => rfl, fun _ => rfl, fun _ => rfl, fun _ => rfl, fun _ => ⟨rfl, rfl, rfl⟩, fun _ => ⟨rfl, rfl⟩, fun _ => ⟨rfl, rfl⟩, fun _ => ⟨rfl, rfl⟩, fun _ => ⟨rfl, rfl⟩, fun _ => rfl, fun h => Bool.noConfusion h, fun h => Bool.noConfusion h, fun h => Bool.noConfusion h, fun h => Bool.noConfusion h, fun h => Bool.noConfusion h, fun h => Bool.noConfusion h, fun h => Bool.noConfusion h, fun h => Bool.noConfusion h, fun h => Bool.noConfusion h, fun h => Bool.noConfusion h, fun h => Bool.noConfusion h, fun h => Bool.noConfusion h⟩, rfl, rfl, hR⟩
          · -- 15
            simp only [List.getElem?_toArray, List.getElem?_cons_succ, List.getElem?_cons_zero, Option.some.injEq] at ho
            subst ho
            have hbi : b15 = false := by simpa using hun
            subst hbi
            have hd14 : b14 = true := by have := hdep ⟨14, .guard⟩ (by simp) rfl; simpa using this
            have hd13 : b13 = true := (e14 hd14)
            have hd12 : b12 = true := (e13 hd13).2
            have hd11 : b11 = true := (e12 hd12).1
            have hd10 : b10 = true := (e11 hd11).1
            have hd9 : b9 = true := (e10 hd10).1
            have hd8 : b8 = true := (e9 hd9).2.1
            have hd7 : b7 = true := (e9 hd9).1
            have hd6 : b6 = true := (e7 hd7)
            have hd5 : b5 = true := (e6 hd6)
            have hd4 : b4 = true := (e5 hd5)
            have hd3 : b3 = true := (e4 hd4)
            have hd2 : b2 = true := (e3 hd3)
            have hd1 : b1 = true := (e2 hd2).2
            have hd0 : b0 = true := (e2 hd2).1
            subst hd0 hd1 hd2 hd3 hd4 hd5 hd6 hd7 hd8 hd9 hd10 hd11 hd12 hd13 hd14
            obtain rfl : b17 = false := Bool.eq_false_iff.2 (fun h => Bool.noConfusion (e17 h).1)
            obtain rfl : b18 = false := Bool.eq_false_iff.2 (fun h => Bool.noConfusion (e18 h).1)
            obtain rfl : b19 = false := Bool.eq_false_iff.2 (fun h => Bool.noConfusion (e19 h).1)
            obtain rfl : b25 = false := Bool.eq_false_iff.2 (fun h => Bool.noConfusion (e25 h).1)
            obtain rfl : b26 = false := Bool.eq_false_iff.2 (fun h => Bool.noConfusion (e26 h).2)
            refine wpOpIn_step rfl (fun K hK => ?_)
            clear hun hdep hi
            go_simp
            refine hK _ _ ⟨true, true, true, true, true, true, true, true, true, true, true, true, true, true, true, true, b16, false, false, false, b20, b21, b22, b23, b24, false, false, ⟨fun _ => ⟨rfl, rfl⟩, fun _ => rfl, fun _ => rfl, fun _ => rfl, fun _ => rfl, fun _ => rfl, fun _ => rfl, fun _ => ⟨rfl, rfl, rfl⟩, fun _ => ⟨rfl, rfl⟩, fun _ => ⟨rfl, rfl⟩, fun _ => ⟨rfl, rfl⟩, fun _ => ⟨rfl, rfl⟩, fun _ => rfl, fun _ => rfl, e16, fun h => Bool.noConfusion h, fun h => Bool.noConfusion h, fun h => Bool.noConfusion h, e20, e21, e22, e23, e24, fun h => Bool.noConfusion h, fun h => Bool.noConfusion h⟩, rfl, rfl, hR⟩
          · -- 16
            simp only [List.getElem?_toArray, List.getElem?_cons_succ, List.getElem?_cons_zero, Option.some.injEq] at ho
            subst ho
            have hbi : b16 = false := by simpa using hun
            subst hbi
            have hd14 : b14 = true := by have := hdep ⟨14, .guard⟩ (by simp) rfl; simpa using this
            have hd13 : b13 = true := (e14 hd14)
            have hd12 : b12 = true := (e13 hd13).2
            have hd11 : b11 = true := (e12 hd12).1
            have hd10 : b10 = true := (e11 hd11).1
            have hd9 : b9 = true := (e10 hd10).1
            have hd8 : b8 = true := (e9 hd9).2.1
            have hd7 : b7 = true := (e9 hd9).1
            have hd6 : b6 = true := (e7 hd7)
            have hd5 : b5 = true := (e6 hd6)
            have hd4 : b4 = true := (e5 hd5)
            have hd3 : b3 = true := (e4 hd4)
            have hd2 : b2 = true := (e3 hd3)
            have hd1 : b1 = true := (e2 hd2).2
            have hd0 : b0 = true := (e2 hd2).1
            subst hd0 hd1 hd2 hd3 hd4 hd5 hd6 hd7 hd8 hd9 hd10 hd11 hd12 hd13 hd14
            obtain rfl : b17 = false := Bool.eq_false_iff.2 (fun h => Bool.noConfusion (e17 h).2.1)
            obtain rfl : b18 = false := Bool.eq_false_iff.2 (fun h => Bool.noConfusion (e18 h).1)
            obtain rfl : b19 = false := Bool.eq_false_iff.2 (fun h => Bool.noConfusion (e19 h).1)
            obtain rfl : b25 = false := Bool.eq_false_iff.2 (fun h => Bool.noConfusion (e25 h).1)
            obtain rfl : b26 = false := Bool.eq_false_iff.2 (fun h => Bool.noConfusion (e26 h).2)
            refine wpOpIn_step rfl (fun K hK => ?_)
            clear hun hdep hi
            go_simp
            refine hK _ _ ⟨true, true, true, true, true, true, true, true, true, true, true, true, true, true, true, b15, true, false, false, false, b20, b21, b22, b23, b24, false, false, ⟨fun _ => ⟨rfl, rfl⟩, fun _ => rfl, fun _ => rfl, fun _ => rfl, fun _ => rfl, fun _ => rfl, fun _ => rfl, fun _ => ⟨rfl, rfl, rfl⟩, fun _ => ⟨rfl, rfl⟩, fun _ => ⟨rfl, rfl⟩, fun _ => ⟨rfl, rfl⟩, fun _ => ⟨rfl, rfl⟩, fun _ => rfl, e15, fun _ => rfl, fun h => Bool.noConfusion h, fun h => Bool.noConfusion h, fun h => Bool.noConfusion h, e20, e21, e22, e23, e24, fun h => Bool.noConfusion h, fun h => Bool.noConfusion h⟩, rfl, rfl, hR⟩
          · -- 17
            simp only [List.getElem?_toArray, List.getElem?_cons_succ, List.getElem?_cons_zero, Option.some.injEq] at ho
            subst ho
            have hbi : b17 = false := by simpa using hun
            subst hbi
            have hd14 : b14 = true := by have := hdep ⟨14, .guard⟩ (by simp) rfl; simpa using this
            have hd15 : b15 = true := by have := hdep ⟨15, .data⟩ (by simp) rfl; simpa using this
            have hd16 : b16 = true := by have := hdep ⟨16, .data⟩ (by simp) rfl; simpa using this
            have hd13 : b13 = true := (e14 hd14)
            have hd12 : b12 = true := (e13 hd13).2
            have hd11 : b11 = true := (e12 hd12).1
            have hd10 : b10 = true := (e11 hd11).1
            have hd9 : b9 = true := (e10 hd10).1
            have hd8 : b8 = true := (e9 hd9).2.1
            have hd7 : b7 = true := (e9 hd9).1
            have hd6 : b6 = true := (e7 hd7)
            have hd5 : b5 = true := (e6 hd6)
            have hd4 : b4 = true := (e5 hd5)
            have hd3 : b3 = true := (e4 hd4)
            have hd2 : b2 = true := (e3 hd3)
            have hd1 : b1 = true := (e2 hd2).2
            have hd0 : b0 = true := (e2 hd2).1
            subst hd0 hd1 hd2 hd3 hd4 hd5 hd6 hd7 hd8 hd9 hd10 hd11 hd12 hd13 hd14 hd15 hd16
            obtain rfl : b18 = false := Bool.eq_false_iff.2 (fun h => Bool.noConfusion (e18 h).1)
            obtain rfl : b19 = false := Bool.eq_false_iff.2 (fun h => Bool.noConfusion (e19 h).1)
            obtain rfl : b25 = false := Bool.eq_false_iff.2 (fun h => Bool.noConfusion (e25 h).1)
            obtain rfl : b26 = false := Bool.eq_false_iff.2 (fun h => Bool.noConfusion (e26 h).2)
            refine wpOpIn_step rfl (fun K hK => ?_)
            clear hun hdep hi
            go_simp
            refine hK _ _ ⟨true, true, true, true, true, true, true, true, true, true, true, true, true, true, true, true, true, true, false, false, b20, b21, b22, b23, b24, false, false, ⟨fun _ => ⟨rfl, rfl⟩, fun _ => rfl, fun _ => rfl, fun _ => rfl, fun _ => rfl, fun _ => rfl, fun _ => rfl, fun _ => ⟨rfl, rfl, rfl⟩, fun _ => ⟨rfl, rfl⟩, fun _ => ⟨rfl, rfl⟩, fun _ => ⟨rfl, rfl⟩, fun _ => ⟨rfl, rfl⟩, fun _ => rfl, fun _ => rfl, fun _ => rfl, fun _ => ⟨rfl, rfl, rfl⟩, fun h => Bool.noConfusion h, fun h => Bool.noConfusion h, e20, e21, e22, e23, e24, fun h => Bool.noConfusion h, fun h => Bool.noConfusion h⟩, rfl, rfl, hR⟩
          · -- 18
            simp only [List.getElem?_toArray, List.getElem?_cons_succ, List.getElem?_cons_zero, Option.some.injEq] at ho
            subst ho
            have hbi : b18 = false := by simpa using hun
            subst hbi
            have hd14 : b14 = true := by have := hdep ⟨14, .guard⟩ (by simp) rfl; simpa using this
            have hd17 : b17 = true := by have := hdep ⟨17, .data⟩ (by simp) rfl; simpa using this
            have hd16 : b16 = true := (e17 hd17).2.1
            have hd15 : b15 = true := (e17 hd17).1
            have hd13 : b13 = true := (e14 hd14)
            have hd12 : b12 = true := (e13 hd13).2
            have hd11 : b11 = true := (e12 hd12).1
            have hd10 : b10 = true := (e11 hd11).1
            have hd9 : b9 = true := (e10 hd10).1
            have hd8 : b8 = true := (e9 hd9).2.1
            have hd7 : b7 = true := (e9 hd9).1
            have hd6 : b6 = true := (e7 hd7)
            have hd5 : b5 = true := (e6 hd6)
            have hd4 : b4 = true := (e5 hd5)
            have hd3 : b3 = true := (e4 hd4)
            have hd2 : b2 = true := (e3 hd3)
            have hd1 : b1 = true := (e2 hd2).2
            have hd0 : b0 = true := (e2 hd2).1
            subst hd0 hd1 hd2 hd3 hd4 hd5 hd6 hd7 hd8 hd9 hd10 hd11 hd12 hd13 hd14 hd15 hd16 hd17
            obtain rfl : b19 = false := Bool.eq_false_iff.2 (fun h => Bool.noConfusion (e19 h).1)
            obtain rfl : b25 = false := Bool.eq_false_iff.2 (fun h => Bool.noConfusion (e25 h).1)
            obtain rfl : b26 = false := Bool.eq_false_iff.2 (fun h => Bool.noConfusion (e26 h).2)
            refine wpOpIn_step rfl (fun K hK => ?_)
            clear hun hdep hi
            go_simp
            refine hK _ _ ⟨true, true, true, true, true, true, true, true, true, true, true, true, true, true, true, true, true, true, true, false, b20, b21, b22, b23, b24, false, false, ⟨fun _ => ⟨rfl, rfl⟩, fun _ => rfl, fun _ => rfl, fun _ => rfl, fun _ => rfl, fun _ => rfl, fun _ => rfl, fun _ => ⟨rfl, rfl, rfl⟩, fun _ => ⟨rfl, rfl⟩, fun _ => ⟨rfl, rfl⟩, fun _ => ⟨rfl, rfl⟩, fun _ => ⟨rfl, rfl⟩, fun _ => rfl, fun _ => rfl, fun _ => rfl, fun _ => ⟨rfl, rfl, rfl⟩, fun _ => ⟨rfl, rfl⟩, fun h => Bool.noConfusion h, e20, e21, e22, e23, e24, fun h => Bool.noConfusion h, fun h => Bool.noConfusion h⟩, rfl, rfl, hR⟩
          · -- 19
            simp only [List.getElem?_toArray, List.getElem?_cons_succ, List.getElem?_cons_zero, Option.some.injEq] at ho
            subst ho
            have hbi : b19 = false := by simpa using hun
            subst hbi
            have hd14 : b14 = true := by have := hdep ⟨14, .guard⟩ (by simp) rfl; simpa using this
            have hd18 : b18 = true := by have := hdep ⟨18, .data⟩ (by simp) rfl; simpa using this
            have hd17 : b17 = true := (e18 hd18).1
            have hd16 : b16 = true := (e17 hd17).2.1
            have hd15 : b15 = true := (e17 hd17).1
            have hd13 : b13 = true := (e14 hd14)
            have hd12 : b12 = true := (e13 hd13).2
            have hd11 : b11 = true := (e12 hd12).1
            have hd10 : b10 = true := (e11 hd11).1
            have hd9 : b9 = true := (e10 hd10).1
            have hd8 : b8 = true := (e9 hd9).2.1
            have hd7 : b7 = true := (e9 hd9).1
            have hd6 : b6 = true := (e7 hd7)
            have hd5 : b5 = true := (e6 hd6)
            have hd4 : b4 = true := (e5 hd5)
            have hd3 : b3 = true := (e4 hd4)
            have hd2 : b2 = true := (e3 hd3)
            have hd1 : b1 = true := (e2 hd2).2
            have hd0 : b0 = true := (e2 hd2).1
            subst hd0 hd1 hd2 hd3 hd4 hd5 hd6 hd7 hd8 hd9 hd10 hd11 hd12 hd13 hd14 hd15 hd16 hd17 hd18
            obtain rfl : b25 = false := Bool.eq_false_iff.2 (fun h => Bool.noConfusion (e25 h).1)
            obtain rfl : b26 = false := Bool.eq_false_iff.2 (fun h => Bool.noConfusion (e26 h).2)
            refine wpOpIn_step rfl (fun K hK => ?_)
            clear hun hdep hi
            go_simp
            refine hK _ _ ⟨true, true, true, true, true, true, true, true, true, true, true, true, true, true, true, true, true, true, true, true, b20, b21, b22, b23, b24, false, false, ⟨fun _ => ⟨rfl, rfl⟩, fun _ => rfl, fun _ => rfl, fun _ => rfl, fun _ => rfl, fun _ => rfl, fun _ => rfl, fun _ => ⟨rfl, rfl, rfl⟩, fun _ => ⟨rfl, rfl⟩, fun _ => ⟨rfl, rfl⟩, fun _ => ⟨rfl, rfl⟩, fun _ => ⟨rfl, rfl⟩, fun _ => rfl, fun _ => rfl, fun _ => rfl, fun _ => ⟨rfl, rfl, rfl⟩, fun _ => ⟨rfl, rfl⟩, fun _ => ⟨rfl, rfl⟩, e20, e21, e22, e23, e24, fun h => Bool.noConfusion h, fun h => Bool.noConfusion h⟩, rfl, rfl, hR⟩
          · -- 20
            simp only [List.getElem?_toArray, List.getElem?_cons_succ, List.getElem?_cons_zero, Option.some.injEq] at ho
            subst ho
            have hbi : b20 = false := by simpa using hun
            subst hbi
            have hd14 : b14 = true := by have := hdep ⟨14, .guard⟩ (by simp) rfl; simpa using this
            have hd13 : b13 = true := (e14 hd14)
            have hd12 : b12 = true := (e13 hd13).2
            have hd11 : b11 = true := (e12 hd12).1
            have hd10 : b10 = true := (e11 hd11).1
            have hd9 : b9 = true := (e10 hd10).1
            have hd8 : b8 = true := (e9 hd9).2.1
            have hd7 : b7 = true := (e9 hd9).1
            have hd6 : b6 = true := (e7 hd7)
            have hd5 : b5 = true := (e6 hd6)
            have hd4 : b4 = true := (e5 hd5)
            have hd3 : b3 = true := (e4 hd4)
            have hd2 : b2 = true := (e3 hd3)
            have hd1 : b1 = true := (e2 hd2).2
            have hd0 : b0 = true := (e2 hd2).1
            subst hd0 hd1 hd2 hd3 hd4 hd5 hd6 hd7 hd8 hd9 hd10 hd11 hd12 hd13 hd14
            obtain rfl : b22 = false := Bool.eq_false_iff.2 (fun h => Bool.noConfusion (e22 h).1)
            obtain rfl : b23 = false := Bool.eq_false_iff.2 (fun h => Bool.noConfusion (e23 h).1)
            obtain rfl : b24 = false := Bool.eq_false_iff.2 (fun h => Bool.noConfusion (e24 h).1)
            obtain rfl : b25 = false := Bool.eq_false_iff.2 (fun h => Bool.noConfusion (e25 h).2.1)
            obtain rfl : b26 = false := Bool.eq_false_iff.2 (fun h => Bool.noConfusion (e26 h).2)
            refine wpOpIn_step rfl (fun K hK => ?_)
            clear hun hdep hi
            go_simp
            refine hK _ _ ⟨true, true, true, true, true, true, true, true, true, true, true, true, true, true, true, b15, b16, b17, b18, b19, true, b21, false, false, false, false, false, ⟨fun _ => ⟨rfl, rfl⟩, fun _ => rfl, fun _ => rfl, fun _ => rfl, fun _ => rfl, fun _ => rfl, fun _ => rfl, fun _ => ⟨rfl, rfl, rfl⟩, fun _ => ⟨rfl, rfl⟩, fun _ => ⟨rfl, rfl⟩, fun _ => ⟨rfl, rfl⟩, fun _ => ⟨rfl, rfl⟩, fun _ => rfl, e15, e16, e17, e18, e19, fun _ => rfl, e21, fun h => Bool.noConfusion h, fun h => Bool.noConfusion h, fun h => Bool.noConfusion h, fun h => Bool.noConfusion h, fun h => Bool.noConfusion h⟩, rfl, rfl, hR⟩
          · -- 21
            simp only [List.getElem?_toArray, List.getElem?_cons_succ, List.getElem?_cons_zero, Option.some.injEq] at ho
            subst ho
            have hbi : b21 = false := by simpa using hun
            subst hbi
            have hd14 : b14 = true := by have := hdep ⟨14, .guard⟩ (by simp) rfl; simpa using this
            have hd13 : b13 = true := (e14 hd14)
            have hd12 : b12 = true := (e13 hd13).2
            have hd11 : b11 = true := (e12 hd12).1
            have hd10 : b10 = true := (e11 hd11).1
            have hd9 : b9 = true := (e10 hd10).1
            have hd8 : b8 = true := (e9 hd9).2.1
            have hd7 : b7 = true := (e9 hd9).1
            have hd6 : b6 = true := (e7 hd7)
            have hd5 : b5 = true := (e6 hd6)
            have hd4 : b4 = true := (e5 hd5)
            have hd3 : b3 = true := (e4 hd4)
            have hd2 : b2 = true := (e3 hd3)
            have hd1 : b1 = true := (e2 hd2).2
            have hd0 : b0 = true := (e2 hd2).1
            subst hd0 hd1 hd2 hd3 hd4 hd5 hd6 hd7 hd8 hd9 hd10 hd11 hd12 hd13 hd14
            obtain rfl : b22 = false := Bool.eq_false_iff.2 (fun h => Bool.noConfusion (e22 h).2.1)
            obtain rfl : b23 = false := Bool.eq_false_iff.2 (fun h => Bool.noConfusion (e23 h).1)
            obtain rfl : b24 = false := Bool.eq_false_iff.2 (fun h => Bool.noConfusion (e24 h).1)
            obtain rfl : b25 = false := Bool.eq_false_iff.2 (fun h => Bool.noConfusion (e25 h).2.1)
            obtain rfl : b26 = false := Bool.eq_false_iff.2 (fun h => Bool.noConfusion (e26 h).2)
            refine wpOpIn_step rfl (fun K hK => ?_)
            clear hun hdep hi
            go_simp
            refine hK _ _ ⟨true, true, true, true, true, true, true, true, true, true, true, true, true, true, true, b15, b16, b17, b18, b19, b20, true, false, false, false, false, false, ⟨fun _ => ⟨rfl, rfl⟩, fun _ => rfl, fun _ => rfl, fun _ => rfl, fun _ => rfl, fun _ => rfl, fun _ => rfl, fun _ => ⟨rfl, rfl, rfl⟩, fun _ => ⟨rfl, rfl⟩, fun _ => ⟨rfl, rfl⟩, fun _ => ⟨rfl, rfl⟩, fun _ => ⟨rfl, rfl⟩, fun _ => rfl, e15, e16, e17, e18, e19, e20, fun _ => rfl, fun h => Bool.noConfusion h, fun h => Bool.noConfusion h, fun h => Bool.noConfusion h, fun h => Bool.noConfusion h, fun h => Bool.noConfusion h⟩, rfl, rfl, hR⟩
          · -- 22
            simp only [List.getElem?_toArray, List.getElem?_cons_succ, List.getElem?_cons_zero, Option.some.injEq] at ho
            subst ho
            have hbi : b22 = false := by simpa using hun
            subst hbi
            have hd14 : b14 = true := by have := hdep ⟨14, .guard⟩ (by simp) rfl; simpa using this
            have hd20 : b20 = true := by have := hdep ⟨20, .data⟩ (by simp) rfl; simpa using this
            have hd21 : b21 = true := by have := hdep ⟨21, .data⟩ (by simp) rfl; simpa using this
            have hd13 : b13 = true := (e14 hd14)
            have hd12 : b12 = true := (e13 hd13).2
            have hd11 : b11 = true := (e12 hd12).1
            have hd10 : b10 = true := (e11 hd11).1
            have hd9 : b9 = true := (e10 hd10).1
            have hd8 : b8 = true := (e9 hd9).2.1
            have hd7 : b7 = true := (e9 hd9).1
            have hd6 : b6 = true := (e7 hd7)
            have hd5 : b5 = true := (e6 hd6)
            have hd4 : b4 = true := (e5 hd5)
            have hd3 : b3 = true := (e4 hd4)
            have hd2 : b2 = true := (e3 hd3)
            have hd1 : b1 = true := (e2 hd2).2
            have hd0 : b0 = true := (e2 hd2).1
            subst hd0 hd1 hd2 hd3 hd4 hd5 hd6 hd7 hd8 hd9 hd10 hd11 hd12 hd13 hd14 hd20 hd21
            obtain rfl : b23 = false := Bool.eq_false_iff.2 (fun h => Bool.noConfusion (e23 h).1)
            obtain rfl : b24 = false := Bool.eq_false_iff.2 (fun h => Bool.noConfusion (e24 h).1)
            obtain rfl : b25 = false := Bool.eq_false_iff.2 (fun h => Bool.noConfusion (e25 h).2.1)
            obtain rfl : b26 = false := Bool.eq_false_iff.2 (fun h => Bool.noConfusion (e26 h).2)
            refine wpOpIn_step rfl (fun K hK => ?_)
            clear hun hdep hi
            go_simp
            refine hK _ _ ⟨true, true, true, true, true, true, true, true, true, true, true, true, true, true, true, b15, b16, b17, b18, b19, true, true, true, false, false, false, false, ⟨fun _ => ⟨rfl, rfl⟩, fun _ => rfl, fun _ => rfl, fun _ => rfl, fun _ => rfl, fun _ => rfl, fun _ => rfl, fun _ => ⟨rfl, rfl, rfl⟩, fun _ => ⟨rfl, rfl⟩, fun _ => ⟨rfl, rfl⟩, fun _ => ⟨rfl, rfl⟩, fun _ => ⟨rfl, rfl⟩, fun _ => rfl, e15, e16, e17, e18, e19, fun _ => rfl, fun _ => rfl, fun _ => ⟨rfl, rfl, rfl⟩, fun h => Bool.noConfusion h, fun h => Bool.noConfusion h, fun h => Bool.noConfusion h, fun h => Bool.noConfusion h⟩, rfl, rfl, hR⟩
          · -- 23
            simp only [List.getElem?_toArray, List.getElem?_cons_succ, List.getElem?_cons_zero, Option.some.injEq] at ho
            subst ho
            have hbi : b23 = false := by simpa using hun
            subst hbi
            have hd14 : b14 = true := by have := hdep ⟨14, .guard⟩ (by simp) rfl; simpa using this
            have hd22 : b22 = true := by have := hdep ⟨22, .data⟩ (by simp) rfl; simpa using this
            have hd21 : b21 = true := (e22 hd22).2.1
            have hd20 : b20 = true := (e22 hd22).1
            have hd13 : b13 = true := (e14 hd14)
            have hd12 : b12 = true := (e13 hd13).2
            have hd11 : b11 = true := (e12 hd12).1
            have hd10 : b10 = true := (e11 hd11).1
            have hd9 : b9 = true := (e10 hd10).1
            have hd8 : b8 = true := (e9 hd9).2.1
            have hd7 : b7 = true := (e9 hd9).1
            have hd6 : b6 = true := (e7 hd7)
            have hd5 : b5 = true := (e6 hd6)
            have hd4 : b4 = true := (e5 hd5)
            have hd3 : b3 = true := (e4 hd4)
            have hd2 : b2 = true := (e3 hd3)
            have hd1 : b1 = true := (e2 hd2).2
            have hd0 : b0 = true := (e2 hd2).1
            subst hd0 hd1 hd2 hd3 hd4 hd5 hd6 hd7 hd8 hd9 hd10 hd11 hd12 hd13 hd14 hd20 hd21 hd22
            obtain rfl : b24 = false := Bool.eq_false_iff.2 (fun h => Bool.noConfusion (e24 h).1)
            obtain rfl : b25 = false := Bool.eq_false_iff.2 (fun h => Bool.noConfusion (e25 h).2.1)
            obtain rfl : b26 = false := Bool.eq_false_iff.2 (fun h => Bool.noConfusion (e26 h).2)
            refine wpOpIn_step rfl (fun K hK => ?_)
            clear hun hdep hi
            go_simp
            refine hK _ _ ⟨true, true, true, true, true, true, true, true, true, true, true, true, true, true, true, b15, b16, b17, b18, b19, true, true, true, true, false, false, false, ⟨fun _ => ⟨rfl, rfl⟩, fun _ => rfl, fun _ => rfl, fun _ => rfl, fun _ => rfl, fun _ => rfl, fun _ => rfl, fun _ => ⟨rfl, rfl, rfl⟩, fun _ => ⟨rfl, rfl⟩, fun _ => ⟨rfl, rfl⟩, fun _ => ⟨rfl, rfl⟩, fun _ => ⟨rfl, rfl⟩, fun _ => rfl, e15, e16, e17, e18, e19, fun _ => rfl, fun _ => rfl, fun _ => ⟨rfl, rfl, rfl⟩, fun _ => ⟨rfl, rfl⟩, fun h => Bool.noConfusion h, fun h => Bool.noConfusion h, fun h => Bool.noConfusion h⟩, rfl, rfl, hR⟩
          · -- 24
            simp only [List.getElem?_toArray, List.getElem?_cons_succ, List.getElem?_cons_zero, Option.some.injEq] at ho
            subst ho
            have hbi : b24 = false := by simpa using hun
            subst hbi
            have hd14 : b14 = true := by have := hdep ⟨14, .guard⟩ (by simp) rfl; simpa using this
            have hd23 : b23 = true := by have := hdep ⟨23, .data⟩ (by simp) rfl; simpa using this
            have hd22 : b22 = true := (e23 hd23).1
            have hd21 : b21 = true := (e22 hd22).2.1
            have hd20 : b20 = true := (e22 hd22).1
            have hd13 : b13 = true := (e14 hd14)
            have hd12 : b12 = true := (e13 hd13).2
            have hd11 : b11 = true := (e12 hd12).1
            have hd10 : b10 = true := (e11 hd11).1
            have hd9 : b9 = true := (e10 hd10).1
            have hd8 : b8 = true := (e9 hd9).2.1
            have hd7 : b7 = true := (e9 hd9).1
            have hd6 : b6 = true := (e7 hd7)
            have hd5 : b5 = true := (e6 hd6)
            have hd4 : b4 = true := (e5 hd5)
            have hd3 : b3 = true := (e4 hd4)
            have hd2 : b2 = true := (e3 hd3)
            have hd1 : b1 = true := (e2 hd2).2
            have hd0 : b0 = true := (e2 hd2).1
            subst hd0 hd1 hd2 hd3 hd4 hd5 hd6 hd7 hd8 hd9 hd10 hd11 hd12 hd13 hd14 hd20 hd21 hd22 hd23
            obtain rfl : b25 = false := Bool.eq_false_iff.2 (fun h => Bool.noConfusion (e25 h).2.1)
            obtain rfl : b26 = false := Bool.eq_false_iff.2 (fun h => Bool.noConfusion (e26 h).2)
            refine wpOpIn_step rfl (fun K hK => ?_)
            clear hun hdep hi
            go_simp
            refine hK _ _ ⟨true, true, true, true, true, true, true, true, true, true, true, true, true, true, true, b15, b16, b17, b18, b19, true, true, true, true, true, false, false, ⟨fun _ => ⟨rfl, rfl⟩, fun _ => rfl, fun _ => rfl, fun _ => rfl, fun _ => rfl, fun _ => rfl, fun _ => rfl, fun _ => ⟨rfl, rfl, rfl⟩, fun _ => ⟨rfl, rfl⟩, fun _ => ⟨rfl, rfl⟩, fun _ => ⟨rfl, rfl⟩, fun _ => ⟨rfl, rfl⟩, fun _ => rfl, e15, e16, e17, e18, e19, fun _ => rfl, fun _ => rfl, fun _ => ⟨rfl, rfl, rfl⟩, fun _ => ⟨rfl, rfl⟩, fun _ => ⟨rfl, rfl⟩, fun h => Bool.noConfusion h, fun h => Bool.noConfusion h⟩, rfl, rfl, hR⟩
          · -- 25
            simp only [List.getElem?_toArray, List.getElem?_cons_succ, List.getElem?_cons_zero, Option.some.injEq] at ho
            subst ho
            have hbi : b25 = false := by simpa using hun
            subst hbi
            have hd14 : b14 = true := by have := hdep ⟨14, .guard⟩ (by simp) rfl; simpa using this
            have hd19 : b19 = true := by have := hdep ⟨19, .data⟩ (by simp) rfl; simpa using this
            have hd24 : b24 = true := by have := hdep ⟨24, .data⟩ (by simp) rfl; simpa using this
            have hd23 : b23 = true := (e24 hd24).1
            have hd22 : b22 = true := (e23 hd23).1
            have hd21 : b21 = true := (e22 hd22).2.1
            have hd20 : b20 = true := (e22 hd22).1
            have hd18 : b18 = true := (e19 hd19).1
            have hd17 : b17 = true := (e18 hd18).1
            have hd16 : b16 = true := (e17 hd17).2.1
            have hd15 : b15 = true := (e17 hd17).1
            have hd13 : b13 = true := (e14 hd14)
            have hd12 : b12 = true := (e13 hd13).2
            have hd11 : b11 = true := (e12 hd12).1
            have hd10 : b10 = true := (e11 hd11).1
            have hd9 : b9 = true := (e10 hd10).1
            have hd8 : b8 = true := (e9 hd9).2.1
            have hd7 : b7 = true := (e9 hd9).1
            have hd6 : b6 = true := (e7 hd7)
            have hd5 : b5 = true := (e6 hd6)
            have hd4 : b4 = true := (e5 hd5)
            have hd3 : b3 = true := (e4 hd4)
            have hd2 : b2 = true := (e3 hd3)
            have hd1 : b1 = true := (e2 hd2).2
            have hd0 : b0 = true := (e2 hd2).1
            subst hd0 hd1 hd2 hd3 hd4 hd5 hd6 hd7 hd8 hd9 hd10 hd11 hd12 hd13 hd14 hd15 hd16 hd17 hd18 hd19 hd20 hd21 hd22 hd23 hd24
            obtain rfl : b26 = false := Bool.eq_false_iff.2 (fun h => Bool.noConfusion (e26 h).2)
            refine wpOpIn_step rfl (fun K hK => ?_)
            clear hun hdep hi
            go_simp
            refine hK _ _ ⟨true, true, true, true, true, true, true, true, true, true, true, true, true, true, true, true, true, true, true, true, true, true, true, true, true, true, false, ⟨fun _ => ⟨rfl, rfl⟩, fun _ => rfl, fun _ => rfl, fun _ => rfl, fun _ => rfl, fun _ => rfl, fun _ => rfl, fun _ => ⟨rfl, rfl, rfl⟩, fun _ => ⟨rfl, rfl⟩, fun _ => ⟨rfl, rfl⟩, fun _ => ⟨rfl, rfl⟩, fun _ => ⟨rfl, rfl⟩, fun _ => rfl, fun _ => rfl, fun _ => rfl, fun _ => ⟨rfl, rfl, rfl⟩, fun _ => ⟨rfl, rfl⟩, fun _ => ⟨rfl, rfl⟩, fun _ => rfl, fun _ => rfl, fun _ => ⟨rfl, rfl, rfl⟩, fun _ => ⟨rfl, rfl⟩, fun _ => ⟨rfl, rfl⟩, fun _ => ⟨rfl, rfl, rfl⟩, fun h => Bool.noConfusion h⟩, rfl, rfl, hR⟩
          · -- 26
            simp only [List.getElem?_toArray, List.getElem?_cons_succ, List.getElem?_cons_zero, Option.some.injEq] at ho
            subst ho
            have hbi : b26 = false := by simpa using hun
            subst hbi
            have hd14 : b14 = true := by have := hdep ⟨14, .data⟩ (by simp) rfl; simpa using this
            have hd25 : b25 = true := by have := hdep ⟨25, .data⟩ (by simp) rfl; simpa using this
            have hd24 : b24 = true := (e25 hd25).2.1
            have hd23 : b23 = true := (e24 hd24).1
            have hd22 : b22 = true := (e23 hd23).1
            have hd21 : b21 = true := (e22 hd22).2.1
            have hd20 : b20 = true := (e22 hd22).1
            have hd19 : b19 = true := (e25 hd25).1
            have hd18 : b18 = true := (e19 hd19).1
            have hd17 : b17 = true := (e18 hd18).1
            have hd16 : b16 = true := (e17 hd17).2.1
            have hd15 : b15 = true := (e17 hd17).1
            have hd13 : b13 = true := (e14 hd14)
            have hd12 : b12 = true := (e13 hd13).2
            have hd11 : b11 = true := (e12 hd12).1
            have hd10 : b10 = true := (e11 hd11).1
            have hd9 : b9 = true := (e10 hd10).1
            have hd8 : b8 = true := (e9 hd9).2.1
            have hd7 : b7 = true := (e9 hd9).1
            have hd6 : b6 = true := (e7 hd7)
            have hd5 : b5 = true := (e6 hd6)
            have hd4 : b4 = true := (e5 hd5)
            have hd3 : b3 = true := (e4 hd4)
            have hd2 : b2 = true := (e3 hd3)
            have hd1 : b1 = true := (e2 hd2).2
            have hd0 : b0 = true := (e2 hd2).1
            subst hd0 hd1 hd2 hd3 hd4 hd5 hd6 hd7 hd8 hd9 hd10 hd11 hd12 hd13 hd14 hd15 hd16 hd17 hd18 hd19 hd20 hd21 hd22 hd23 hd24 hd25
            refine wpOpIn_step rfl (fun K hK => ?_)
            clear hun hdep hi
            go_simp
            refine hK _ _ ⟨true, true, true, true, true, true, true, true, true, true, true, true, true, true, true, true, true, true, true, true, true, true, true, true, true, true, true, ⟨fun _ => ⟨rfl, rfl⟩, fun _ => rfl, fun _ => rfl, fun _ => rfl, fun _ => rfl, fun _ => rfl, fun _ => rfl, fun _ => ⟨rfl, rfl, rfl⟩, fun _ => ⟨rfl, rfl⟩, fun _ => ⟨rfl, rfl⟩, fun _ => ⟨rfl, rfl⟩, fun _ => ⟨rfl, rfl⟩, fun _ => rfl, fun _ => rfl, fun _ => rfl, fun _ => ⟨rfl, rfl, rfl⟩, fun _ => ⟨rfl, rfl⟩, fun _ => ⟨rfl, rfl⟩, fun _ => rfl, fun _ => rfl, fun _ => ⟨rfl, rfl, rfl⟩, fun _ => ⟨rfl, rfl⟩, fun _ => ⟨rfl, rfl⟩, fun _ => ⟨rfl, rfl, rfl⟩, fun _ => ⟨rfl, rfl⟩⟩, rfl, rfl, hR⟩
      have HF := Lib.hid hf
      by_cases hx0 : x < 0
      · have HO := Lib.hid (hbad.out (fun c => by omega))
        clear hf hbad hnx hbig
        go_wp2_with fail
        have hd1 : decide (x < 0) = true := decide_eq_true hx0
        rename_i K0 hK0
        refine (wpIn_wide (n := 8)).1 ?_
        refine PR.wpIn_region_inv hmx (by kernel_rfl) (fun listed ac w' =>
            ∃ (b0 b1 b2 b3 b4 b5 b6 b7 b8 b9 b10 b11 b12 b13 b14 b15 b16 b17 b18 b19 b20 b21 b22 b23 b24 b25 b26 : Bool), ((b2 = true → b0 = true ∧ b1 = true) ∧ (b3 = true → b2 = true) ∧ (b4 = true → b3 = true) ∧ (b5 = true → b4 = true) ∧ (b6 = true → b5 = true) ∧ (b7 = true → b6 = true) ∧ (b8 = true → b6 = true) ∧ (b9 = true → b7 = true ∧ b8 = true ∧ b6 = true) ∧ (b10 = true → b9 = true ∧ b6 = true) ∧ (b11 = true → b10 = true ∧ b6 = true) ∧ (b12 = true → b11 = true ∧ b6 = true) ∧ (b13 = true → b6 = true ∧ b12 = true) ∧ (b14 = true → b13 = true) ∧ (b15 = true → b14 = true) ∧ (b16 = true → b14 = true) ∧ (b17 = true → b15 = true ∧ b16 = true ∧ b14 = true) ∧ (b18 = true → b17 = true ∧ b14 = true) ∧ (b19 = true → b18 = true ∧ b14 = true) ∧ (b20 = true → b14 = true) ∧ (b21 = true → b14 = true) ∧ (b22 = true → b20 = true ∧ b21 = true ∧ b14 = true) ∧ (b23 = true → b22 = true ∧ b14 = true) ∧ (b24 = true → b23 = true ∧ b14 = true) ∧ (b25 = true → b19 = true ∧ b24 = true ∧ b14 = true) ∧ (b26 = true → b14 = true ∧ b25 = true)) ∧ listed = #[b0, b1, b2, b3, b4, b5, b6, b7, b8, b9, b10, b11, b12, b13, b14, b15, b16, b17, b18, b19, b20, b21, b22, b23, b24, b25, b26] ∧
              ac = { tmps := #[.slice (some ⟨b, off, none⟩) xs.length c, .int .i64 xs.length, .int .i64 most, undef, undef, undef, u6, u7, u8, .int .i64 k, undef, undef, undef, undef, undef, .slice (some ⟨b, off, none⟩) xs.length c, .int .i64 xs.length, .int .i64 xs.length, .bool false, .int .i64 k, .int .i64 xs.length, .bool true, u22, u23, cond b0 (.slice (some ⟨b, off, none⟩) xs.length c) (u24), cond b1 (.int .i64 k) (u25), cond b2 (.pointer (some ⟨b, off + k * 2, none⟩)) (u26), cond b3 (.agg #[.int .i64 x, .int .i64 z]) (u27), cond b4 (.bool true) (u28), cond b5 (.bool false) (u29), cond b6 (.bool false) (u30), cond b7 (.slice (some ⟨b, off, none⟩) xs.length c) (u31), cond b8 (.int .i64 k) (u32), cond b9 (.pointer (some ⟨b, off + k * 2, none⟩)) (u33), cond b10 (.pointer (some ⟨b, off + k * 2, none⟩)) (u34), cond b11 (.int .i64 x) (u35), cond b12 (.bool true) (u36), cond b13 (.bool true) (u37), cond b14 (.bool true) (u38), cond b15 (undef) (u39), cond b16 (undef) (u40), cond b17 (undef) (u41), cond b18 (undef) (u42), cond b19 (undef) (u43), cond b20 (undef) (u44), cond b21 (undef) (u45), cond b22 (undef) (u46), cond b23 (undef) (u47), cond b24 (undef) (u48), cond b25 (undef) (u49), cond b26 (.bool true) (u50), undef, undef, undef, undef, undef, undef, undef, undef, undef, undef, undef, undef, undef, undef, undef, undef, undef, undef, undef, undef, undef, undef, undef, undef, undef, undef, undef, undef, undef], defers := [] } ∧ Below wr.heap.size wr w') ?_ ?_ ?_ ?_
        · rintro listed ac w' ⟨b0, b1, b2, b3, b4, b5, b6, b7, b8, b9, b10, b11, b12, b13, b14, b15, b16, b17, b18, b19, b20, b21, b22, b23, b24, b25, b26, _, rfl, _⟩
          rfl
        · rintro listed ac w' ⟨b0, b1, b2, b3, b4, b5, b6, b7, b8, b9, b10, b11, b12, b13, b14, b15, b16, b17, b18, b19, b20, b21, b22, b23, b24, b25, b26, _, rfl, rfl, hR⟩ hall
          have h0 := hall 0 (by simp)
          have h1 := hall 1 (by simp)
          have h2 := hall 2 (by simp)
          have h3 := hall 3 (by simp)
          have h4 := hall 4 (by simp)
          have h5 := hall 5 (by simp)
          have h6 := hall 6 (by simp)
          have h7 := hall 7 (by simp)
          have h8 := hall 8 (by simp)
          have h9 := hall 9 (by simp)
          have h10 := hall 10 (by simp)
          have h11 := hall 11 (by simp)
          have h12 := hall 12 (by simp)
          have h13 := hall 13 (by simp)
          have h14 := hall 14 (by simp)
          have h15 := hall 15 (by simp)
          have h16 := hall 16 (by simp)
          have h17 := hall 17 (by simp)
          have h18 := hall 18 (by simp)
          have h19 := hall 19 (by simp)
          have h20 := hall 20 (by simp)
          have h21 := hall 21 (by simp)
          have h22 := hall 22 (by simp)
          have h23 := hall 23 (by simp)
          have h24 := hall 24 (by simp)
          have h25 := hall 25 (by simp)
          have h26 := hall 26 (by simp)
          simp at h0 h1 h2 h3 h4 h5 h6 h7 h8 h9 h10 h11 h12 h13 h14 h15 h16 h17 h18 h19 h20 h21 h22 h23 h24 h25 h26
          subst h0 h1 h2 h3 h4 h5 h6 h7 h8 h9 h10 h11 h12 h13 h14 h15 h16 h17 h18 h19 h20 h21 h22 h23 h24 h25 h26
          clear hall
          refine hK0 _ _ ?_
          simp only [cond_true]
          have HB9 := Lib.hid (HB.out.trans (hR.mono hzr))
          clear hc1 hc2 hR
          go_wp2_with fail
          go_ret3
          exact .inl ⟨HO.out, rfl, HB9.out⟩
        · exact ⟨false, false, false, false, false, false, false, false, false, false, false, false, false, false, false, false, false, false, false, false, false, false, false, false, false, false, false, by simp, rfl, rfl, (Below.refl _ _).drew⟩
        · rintro listed ac w' i oi ⟨b0, b1, b2, b3, b4, b5, b6, b7, b8, b9, b10, b11, b12, b13, b14, b15, b16, b17, b18, b19, b20, b21, b22, b23, b24, b25, b26, ⟨e2, e3, e4, e5, e6, e7, e8, e9, e10, e11, e12, e13, e14, e15, e16, e17, e18, e19, e20, e21, e22, e23, e24, e25, e26⟩, rfl, rfl, hR⟩ ho hun hdep
          have hi : i < 27 := by simpa using (Array.getElem?_eq_some_iff.1 ho).1
          obtain rfl | rfl | rfl | rfl | rfl | rfl | rfl | rfl | rfl | rfl | rfl | rfl | rfl | rfl | rfl | rfl | rfl | rfl | rfl | rfl | rfl | rfl | rfl | rfl | rfl | rfl | rfl : i = 0 ∨ i = 1 ∨ i = 2 ∨ i = 3 ∨ i = 4 ∨ i = 5 ∨ i = 6 ∨ i = 7 ∨ i = 8 ∨ i = 9 ∨ i = 10 ∨ i = 11 ∨ i = 12 ∨ i = 13 ∨ i = 14 ∨ i = 15 ∨ i = 16 ∨ i = 17 ∨ i = 18 ∨ i = 19 ∨ i = 20 ∨ i = 21 ∨ i = 22 ∨ i = 23 ∨ i = 24 ∨ i = 25 ∨ i = 26 := by omega
          · -- 0
            simp only [List.getElem?_toArray, List.getElem?_cons_zero, Option.some.injEq] at ho
            subst ho
            have hbi : b0 = false := by simpa using hun
            subst hbi
            obtain rfl : b2 = false := Bool.eq_false_iff.2 (fun h => Bool.noConfusion (e2 h).1)
            obtain rfl : b3 = false := Bool.eq_false_iff.2 (fun h => Bool.noConfusion (e3 h))
            obtain rfl : b4 = false := Bool.eq_false_iff.2 (fun h => Bool.noConfusion (e4 h))
            obtain rfl : b5 = false := Bool.eq_false_iff.2 (fun h => Bool.noConfusion (e5 h))
            obtain rfl : b6 = false := Bool.eq_false_iff.2 (fun h => Bool.noConfusion (e6 h))
            obtain rfl : b7 = false := Bool.eq_false_iff.2 (fun h => Bool.noConfusion (e7 h))
            obtain rfl : b8 = false := Bool.eq_false_iff.2 (fun h => Bool.noConfusion (e8 h))
            obtain rfl : b9 = false := Bool.eq_false_iff.2 (fun h => Bool.noConfusion (e9 h).1)
            obtain rfl : b10 = false := Bool.eq_false_iff.2 (fun h => Bool.noConfusion (e10 h).1)
            obtain rfl : b11 = false := Bool.eq_false_iff.2 (fun h => Bool.noConfusion (e11 h).1)
            obtain rfl : b12 = false := Bool.eq_false_iff.2 (fun h => Bool.noConfusion (e12 h).1)
            obtain rfl : b13 = false := Bool.eq_false_iff.2 (fun h => Bool.noConfusion (e13 h).1)
            obtain rfl : b14 = false := Bool.eq_false_iff.2 (fun h => Bool.noConfusion (e14 h))
            obtain rfl : b15 = false := Bool.eq_false_iff.2 (fun h => Bool.noConfusion (e15 h))
            obtain rfl : b16 = false := Bool.eq_false_iff.2 (fun h => Bool.noConfusion (e16 h))
            obtain rfl : b17 = false := Bool.eq_false_iff.2 (fun h => Bool.noConfusion (e17 h).1)
            obtain rfl : b18 = false := Bool.eq_false_iff.2 (fun h => Bool.noConfusion (e18 h).1)
            obtain rfl : b19 = false := Bool.eq_false_iff.2 (fun h => Bool.noConfusion (e19 h).1)
            obtain rfl : b20 = false := Bool.eq_false_iff.2 (fun h => Bool.noConfusion (e20 h))
            obtain rfl : b21 = false := Bool.eq_false_iff.2 (fun h => Bool.noConfusion (e21 h))
            obtain rfl : b22 = false := Bool.eq_false_iff.2 (fun h => Bool.noConfusion (e22 h).1)
            obtain rfl : b23 = false := Bool.eq_false_iff.2 (fun h => Bool.noConfusion (e23 h).1)
            obtain rfl : b24 = false := Bool.eq_false_iff.2 (fun h => Bool.noConfusion (e24 h).1)
            obtain rfl : b25 = false := Bool.eq_false_iff.2 (fun h => Bool.noConfusion (e25 h).1)
            obtain rfl : b26 = false := Bool.eq_false_iff.2 (fun h => Bool.noConfusion (e26 h).1)
            refine wpOpIn_step rfl (fun K hK => ?_)
            clear hun hdep hi
            go_simp
            refine hK _ _ ⟨true, b1, false, false, false, false, false, false, false, false, false, false, false, false, false, false, false, false, false, false, false, false, false, false, false, false, false, ⟨fun h => Bool.noConfusion h, fun h => Bool.noConfusion h, fun h => Bool.noConfusion h, fun h => Bool.noConfusion h, fun h => Bool.noConfusion h, fun h => Bool.noConfusion h, fun h => Bool.noConfusion h, fun h => Bool.noConfusion h, fun h => Bool.noConfusion h, fun h => Bool.noConfusion h, fun h => Bool.noConfusion h, fun h => Bool.noConfusion h, fun h => Bool.noConfusion h, fun h => Bool.noConfusion h, fun h => Bool.noConfusion h, fun h => Bool.noConfusion h, fun h => Bool.noConfusion h, fun h => Bool.noConfusion h, fun h => Bool.noConfusion h, fun h => Bool.noConfusion h, fun h => Bool.noConfusion h, fun h => Bool.noConfusion h, fun h => Bool.noConfusion h, fun h => Bool.noConfusion h, fun h => Bool.noConfusion h⟩, rfl, rfl, hR⟩
          · -- 1
            simp only [List.getElem?_toArray, List.getElem?_cons_succ, List.getElem?_cons_zero, Option.some.injEq] at ho
            subst ho
            have hbi : b1 = false := by simpa using hun
            subst hbi
            obtain rfl : b2 = false := Bool.eq_false_iff.2 (fun h => Bool.noConfusion (e2 h).2)
            obtain rfl : b3 = false := Bool.eq_false_iff.2 (fun h => Bool.noConfusion (e3 h))
            obtain rfl : b4 = false := Bool.eq_false_iff.2 (fun h => Bool.noConfusion (e4 h))
            obtain rfl : b5 = false := Bool.eq_false_iff.2 (fun h => Bool.noConfusion (e5 h))
            obtain rfl : b6 = false := Bool.eq_false_iff.2 (fun h => Bool.noConfusion (e6 h))
            obtain rfl : b7 = false := Bool.eq_false_iff.2 (fun h => Bool.noConfusion (e7 h))
            obtain rfl : b8 = false := Bool.eq_false_iff.2 (fun h => Bool.noConfusion (e8 h))
            obtain rfl : b9 = false := Bool.eq_false_iff.2 (fun h => Bool.noConfusion (e9 h).1)
            obtain rfl : b10 = false := Bool.eq_false_iff.2 (fun h => Bool.noConfusion (e10 h).1)
            obtain rfl : b11 = false := Bool.eq_false_iff.2 (fun h => Bool.noConfusion (e11 h).1)
            obtain rfl : b12 = false := Bool.eq_false_iff.2 (fun h => Bool.noConfusion (e12 h).1)
            obtain rfl : b13 = false := Bool.eq_false_iff.2 (fun h => Bool.noConfusion (e13 h).1)
            obtain rfl : b14 = false := Bool.eq_false_iff.2 (fun h => Bool.noConfusion (e14 h))
            obtain rfl : b15 = false := Bool.eq_false_iff.2 (fun h => Bool.noConfusion (e15 h))
            obtain rfl : b16 = false := Bool.eq_false_iff.2 (fun h => Bool.noConfusion (e16 h))
            obtain rfl : b17 = false := Bool.eq_false_iff.2 (fun h => Bool.noConfusion (e17 h).1)
            obtain rfl : b18 = false := Bool.eq_false_iff.2 (fun h => Bool.noConfusion (e18 h).1)
            obtain rfl : b19 = false := Bool.eq_false_iff.2 (fun h => Bool.noConfusion (e19 h).1)
            obtain rfl : b20 = false := Bool.eq_false_iff.2 (fun h => Bool.noConfusion (e20 h))
            obtain rfl : b21 = false := Bool.eq_false_iff.2 (fun h => Bool.noConfusion (e21 h))
            obtain rfl : b22 = false := Bool.eq_false_iff.2 (fun h => Bool.noConfusion (e22 h).1)
            obtain rfl : b23 = false := Bool.eq_false_iff.2 (fun h => Bool.noConfusion (e23 h).1)
            obtain rfl : b24 = false := Bool.eq_false_iff.2 (fun h => Bool.noConfusion (e24 h).1)
            obtain rfl : b25 = false := Bool.eq_false_iff.2 (fun h => Bool.noConfusion (e25 h).1)
            obtain rfl : b26 = false := Bool.eq_false_iff.2 (fun h => Bool.noConfusion (e26 h).1)
            refine wpOpIn_step rfl (fun K hK => ?_)
            clear hun hdep hi
            go_simp
            refine hK _ _ ⟨b0, true, false, false, false, false, false, false, false, false, false, false, false, false, false, false, false, false, false, false, false, false, false, false, false, false, false, ⟨fun h => Bool.noConfusion h, fun h => Bool.noConfusion h, fun h => Bool.noConfusion h, fun h => Bool.noConfusion h, fun h => Bool.noConfusion h, fun h => Bool.noConfusion h, fun h => Bool.noConfusion h, fun h => Bool.noConfusion h, fun h => Bool.noConfusion h, fun h => Bool.noConfusion h, fun h => Bool.noConfusion h, fun h => Bool.noConfusion h, fun h => Bool.noConfusion h, fun h => Bool.noConfusion h, fun h => Bool.noConfusion h, fun h => Bool.noConfusion h, fun h => Bool.noConfusion h, fun h => Bool.noConfusion h, fun h => Bool.noConfusion h, fun h => Bool.noConfusion h, fun h => Bool.noConfusion h, fun h => Bool.noConfusion h, fun h => Bool.noConfusion h, fun h => Bool.noConfusion h, fun h => Bool.noConfusion h⟩, rfl, rfl, hR⟩
          · -- 2
            simp only [List.getElem?_toArray, List.getElem?_cons_succ, List.getElem?_cons_zero, Option.some.injEq] at ho
            subst ho
            have hbi : b2 = false := by simpa using hun
            subst hbi
            have hd0 : b0 = true := by have := hdep ⟨0, .data⟩ (by simp) rfl; simpa using this
            have hd1 : b1 = true := by have := hdep ⟨1, .data⟩ (by simp) rfl; simpa using this
            subst hd0 hd1
            obtain rfl : b3 = false := Bool.eq_false_iff.2 (fun h => Bool.noConfusion (e3 h))
            obtain rfl : b4 = false := Bool.eq_false_iff.2 (fun h => Bool.noConfusion (e4 h))
            obtain rfl : b5 = false := Bool.eq_false_iff.2 (fun h => Bool.noConfusion (e5 h))
            obtain rfl : b6 = false := Bool.eq_false_iff.2 (fun h => Bool.noConfusion (e6 h))
            obtain rfl : b7 = false := Bool.eq_false_iff.2 (fun h => Bool.noConfusion (e7 h))
            obtain rfl : b8 = false := Bool.eq_false_iff.2 (fun h => Bool.noConfusion (e8 h))
            obtain rfl : b9 = false := Bool.eq_false_iff.2 (fun h => Bool.noConfusion (e9 h).1)
            obtain rfl : b10 = false := Bool.eq_false_iff.2 (fun h => Bool.noConfusion (e10 h).1)
            obtain rfl : b11 = false := Bool.eq_false_iff.2 (fun h => Bool.noConfusion (e11 h).1)
            obtain rfl : b12 = false := Bool.eq_false_iff.2 (fun h => Bool.noConfusion (e12 h).1)
            obtain rfl : b13 = false := Bool.eq_false_iff.2 (fun h => Bool.noConfusion (e13 h).1)
            obtain rfl : b14 = false := Bool.eq_false_iff.2 (fun h => Bool.noConfusion (e14 h))
            obtain rfl : b15 = false := Bool.eq_false_iff.2 (fun h => Bool.noConfusion (e15 h))
            obtain rfl : b16 = false := Bool.eq_false_iff.2 (fun h => Bool.noConfusion (e16 h))
            obtain rfl : b17 = false := Bool.eq_false_iff.2 (fun h => Bool.noConfusion (e17 h).1)
            obtain rfl : b18 = false := Bool.eq_false_iff.2 (fun h => Bool.noConfusion (e18 h).1)
            obtain rfl : b19 = false := Bool.eq_false_iff.2 (fun h => Bool.noConfusion (e19 h).1)
            obtain rfl : b20 = false := Bool.eq_false_iff.2 (fun h => Bool.noConfusion (e20 h))
            obtain rfl : b21 = false := Bool.eq_false_iff.2 (fun h => Bool.noConfusion (e21 h))
            obtain rfl : b22 = false := Bool.eq_false_iff.2 (fun h => Bool.noConfusion (e22 h).1)
            obtain rfl : b23 = false := Bool.eq_false_iff.2 (fun h => Bool.noConfusion (e23 h).1)
            obtain rfl : b24 = false := Bool.eq_false_iff.2 (fun h => Bool.noConfusion (e24 h).1)
            obtain rfl : b25 = false := Bool.eq_false_iff.2 (fun h => Bool.noConfusion (e25 h).1)
            obtain rfl : b26 = false := Bool.eq_false_iff.2 (fun h => Bool.noConfusion (e26 h).1)
            refine wpOpIn_step rfl (fun K hK => ?_)
            clear hun hdep hi
            go_simp
            refine hK _ _ ⟨true, true, true, false, false, false, false, false, false, false, false, false, false, false, false, false, false, false, false, false, false, false, false, false, false, false, false, ⟨fun _ => ⟨rfl, rfl⟩, fun h => Bool.noConfusion h, fun h => Bool.noConfusion h, fun h => Bool.noConfusion h, fun h => Bool.noConfusion h, fun h => Bool.noConfusion h, fun h => Bool.noConfusion h, fun h => Bool.noConfusion h, fun h => Bool.noConfusion h, fun h => Bool.noConfusion h, fun h => Bool.noConfusion h, fun h => Bool.noConfusion h, fun h => Bool.noConfusion h, fun h => Bool.noConfusion h, fun h => Bool.noConfusion h, fun h => Bool.noConfusion h, fun h => Bool.noConfusion h, fun h => Bool.noConfusion h, fun h => Bool.noConfusion h, fun h => Bool.noConfusion h, fun h => Bool.noConfusion h, fun h => Bool.noConfusion h, fun h => Bool.noConfusion h, fun h => Bool.noConfusion h, fun h => Bool.noConfusion h⟩, rfl, rfl, hR⟩
          · -- 3
            simp only [List.getElem?_toArray, List.getElem?_cons_succ, List.getElem?_cons_zero, Option.some.injEq] at ho
            subst ho
            have hbi : b3 = false := by simpa using hun
            subst hbi
            have hd2 : b2 = true := by have := hdep ⟨2, .data⟩ (by simp) rfl; simpa using this
            have hd1 : b1 = true := (e2 hd2).2
            have hd0 : b0 = true := (e2 hd2).1
            subst hd0 hd1 hd2
            obtain rfl : b4 = false := Bool.eq_false_iff.2 (fun h => Bool.noConfusion (e4 h))
            obtain rfl : b5 = false := Bool.eq_false_iff.2 (fun h => Bool.noConfusion (e5 h))
            obtain rfl : b6 = false := Bool.eq_false_iff.2 (fun h => Bool.noConfusion (e6 h))
            obtain rfl : b7 = false := Bool.eq_false_iff.2 (fun h => Bool.noConfusion (e7 h))
            obtain rfl : b8 = false := Bool.eq_false_iff.2 (fun h => Bool.noConfusion (e8 h))
            obtain rfl : b9 = false := Bool.eq_false_iff.2 (fun h => Bool.noConfusion (e9 h).1)
            obtain rfl : b10 = false := Bool.eq_false_iff.2 (fun h => Bool.noConfusion (e10 h).1)
            obtain rfl : b11 = false := Bool.eq_false_iff.2 (fun h => Bool.noConfusion (e11 h).1)
            obtain rfl : b12 = false := Bool.eq_false_iff.2 (fun h => Bool.noConfusion (e12 h).1)
            obtain rfl : b13 = false := Bool.eq_false_iff.2 (fun h => Bool.noConfusion (e13 h).1)
            obtain rfl : b14 = false := Bool.eq_false_iff.2 (fun h => Bool.noConfusion (e14 h))
            obtain rfl : b15 = false := Bool.eq_false_iff.2 (fun h => Bool.noConfusion (e15 h))
            obtain rfl : b16 = false := Bool.eq_false_iff.2 (fun h => Bool.noConfusion (e16 h))
            obtain rfl : b17 = false := Bool.eq_false_iff.2 (fun h => Bool.noConfusion (e17 h).1)
            obtain rfl : b18 = false := Bool.eq_false_iff.2 (fun h => Bool.noConfusion (e18 h).1)
            obtain rfl : b19 = false := Bool.eq_false_iff.2 (fun h => Bool.noConfusion (e19 h).1)
            obtain rfl : b20 = false := Bool.eq_false_iff.2 (fun h => Bool.noConfusion (e20 h))
            obtain rfl : b21 = false := Bool.eq_false_iff.2 (fun h => Bool.noConfusion (e21 h))
            obtain rfl : b22 = false := Bool.eq_false_iff.2 (fun h => Bool.noConfusion (e22 h).1)
            obtain rfl : b23 = false := Bool.eq_false_iff.2 (fun h => Bool.noConfusion (e23 h).1)
            obtain rfl : b24 = false := Bool.eq_false_iff.2 (fun h => Bool.noConfusion (e24 h).1)
            obtain rfl : b25 = false := Bool.eq_false_iff.2 (fun h => Bool.noConfusion (e25 h).1)
            obtain rfl : b26 = false := Bool.eq_false_iff.2 (fun h => Bool.noConfusion (e26 h).1)
            refine wpOpIn_step rfl (fun K hK => ?_)
            clear hun hdep hi
            have t0 := hc1 w' hR
            have t1 := hc2 w' hR
            go_simp
            refine hK _ _ ⟨true, true, true, true, false, false, false, false, false, false, false, false, false, false, false, false, false, false, false, false, false, false, false, false, false, false, false, ⟨fun _ => ⟨rfl, rfl⟩, fun _ => rfl, fun h => Bool.noConfusion h, fun h => Bool.noConfusion h, fun h => Bool.noConfusion h, fun h => Bool.noConfusion h, fun h => Bool.noConfusion h, fun h => Bool.noConfusion h, fun h => Bool.noConfusion h, fun h => Bool.noConfusion h, fun h => Bool.noConfusion h, fun h => Bool.noConfusion h, fun h => Bool.noConfusion h, fun h => Bool.noConfusion h, fun h => Bool.noConfusion h, fun h => Bool.noConfusion h, fun h => Bool.noConfusion h, fun h => Bool.noConfusion h, fun h => Bool.noConfusion h, fun h => Bool.noConfusion h, fun h => Bool.noConfusion h, fun h => Bool.noConfusion h, fun h => Bool.noConfusion h, fun h => Bool.noConfusion h, fun h => Bool.noConfusion h⟩, rfl, rfl, hR⟩
          · -- 4
            simp only [List.getElem?_toArray, List.getElem?_cons_succ, List.getElem?_cons_zero, Option.some.injEq] at ho
            subst ho
            have hbi : b4 = false := by simpa using hun
            subst hbi
            have hd3 : b3 = true := by have := hdep ⟨3, .data⟩ (by simp) rfl; simpa using this
            have hd2 : b2 = true := (e3 hd3)
            have hd1 : b1 = true := (e2 hd2).2
            have hd0 : b0 = true := (e2 hd2).1
            subst hd0 hd1 hd2 hd3
            obtain rfl : b5 = false := Bool.eq_false_iff.2 (fun h => Bool.noConfusion (e5 h))
            obtain rfl : b6 = false := Bool.eq_false_iff.2 (fun h => Bool.noConfusion (e6 h))
            obtain rfl : b7 = false := Bool.eq_false_iff.2 (fun h => Bool.noConfusion (e7 h))
            obtain rfl : b8 = false := Bool.eq_false_iff.2 (fun h => Bool.noConfusion (e8 h))
            obtain rfl : b9 = false := Bool.eq_false_iff.2 (fun h => Bool.noConfusion (e9 h).1)
            obtain rfl : b10 = false := Bool.eq_false_iff.2 (fun h => Bool.noConfusion (e10 h).1)
            obtain rfl : b11 = false := Bool.eq_false_iff.2 (fun h => Bool.noConfusion (e11 h).1)
            obtain rfl : b12 = false := Bool.eq_false_iff.2 (fun h => Bool.noConfusion (e12 h).1)
            obtain rfl : b13 = false := Bool.eq_false_iff.2 (fun h => Bool.noConfusion (e13 h).1)
            obtain rfl : b14 = false := Bool.eq_false_iff.2 (fun h => Bool.noConfusion (e14 h))
            obtain rfl : b15 = false := Bool.eq_false_iff.2 (fun h => Bool.noConfusion (e15 h))
            obtain rfl : b16 = false := Bool.eq_false_iff.2 (fun h => Bool.noConfusion (e16 h))
            obtain rfl : b17 = false := Bool.eq_false_iff.2 (fun h => Bool.noConfusion (e17 h).1)
            obtain rfl : b18 = false := Bool.eq_false_iff.2 (fun h => Bool.noConfusion (e18 h).1)
            obtain rfl : b19 = false := Bool.eq_false_iff.2 (fun h => Bool.noConfusion (e19 h).1)
            obtain rfl : b20 = false := Bool.eq_false_iff.2 (fun h => Bool.noConfusion (e20 h))
            obtain rfl : b21 = false := Bool.eq_false_iff.2 (fun h => Bool.noConfusion (e21 h))
            obtain rfl : b22 = false := Bool.eq_false_iff.2 (fun h => Bool.noConfusion (e22 h).1)
            obtain rfl : b23 = false := Bool.eq_false_iff.2 (fun h => Bool.noConfusion (e23 h).1)
            obtain rfl : b24 = false := Bool.eq_false_iff.2 (fun h => Bool.noConfusion (e24 h).1)
            obtain rfl : b25 = false := Bool.eq_false_iff.2 (fun h => Bool.noConfusion (e25 h).1)
            obtain rfl : b26 = false := Bool.eq_false_iff.2 (fun h => Bool.noConfusion (e26 h).1)
            refine wpOpIn_step rfl (fun K hK => ?_)
            clear hun hdep hi
            go_simp
            refine ⟨trivial, (callsIn_wide.2 (FW.specIsFrac_is x z _ w' HF.out)).mono ?_⟩
            rintro e w'' ⟨rfl, hb⟩
            refine hK _ _ ⟨true, true, true, true, true, false, false, false, false, false, false, false, false, false, false, false, false, false, false, false, false, false, false, false, false, false, false, ⟨fun _ => ⟨rfl, rfl⟩, fun _ => rfl, fun _ => rfl, fun h => Bool.noConfusion h, fun h => Bool.noConfusion h, fun h => Bool.noConfusion h, fun h => Bool.noConfusion h, fun h => Bool.noConfusion h, fun h => Bool.noConfusion h, fun h => Bool.noConfusion h, fun h => Bool.noConfusion h, fun h => Bool.noConfusion h, fun h => Bool.noConfusion h, fun h => Bool.noConfusion h, fun h => Bool.noConfusion h, fun h => Bool.noConfusion h, fun h => Bool.noConfusion h, fun h => Bool.noConfusion h, fun h => Bool.noConfusion h, fun h => Bool.noConfusion h, fun h => Bool.noConfusion h, fun h => Bool.noConfusion h, fun h => Bool.noConfusion h, fun h => Bool.noConfusion h, fun h => Bool.noConfusion h⟩, rfl, rfl, hR.trans (hb.mono hR.size)⟩
          · -- 5
            simp only [List.getElem?_toArray, List.getElem?_cons_succ, List.getElem?_cons_zero, Option.some.injEq] at ho
            subst ho
            have hbi : b5 = false := by simpa using hun
            subst hbi
            have hd4 : b4 = true := by have := hdep ⟨4, .data⟩ (by simp) rfl; simpa using this
            have hd3 : b3 = true := (e4 hd4)
            have hd2 : b2 = true := (e3 hd3)
            have hd1 : b1 = true := (e2 hd2).2
            have hd0 : b0 = true := (e2 hd2).1
            subst hd0 hd1 hd2 hd3 hd4
            obtain rfl : b6 = false := Bool.eq_false_iff.2 (fun h => Bool.noConfusion (e6 h))
            obtain rfl : b7 = false := Bool.eq_false_iff.2 (fun h => Bool.noConfusion (e7 h))
            obtain rfl : b8 = false := Bool.eq_false_iff.2 (fun h => Bool.noConfusion (e8 h))
            obtain rfl : b9 = false := Bool.eq_false_iff.2 (fun h => Bool.noConfusion (e9 h).1)
            obtain rfl : b10 = false := Bool.eq_false_iff.2 (fun h => Bool.noConfusion (e10 h).1)
            obtain rfl : b11 = false := Bool.eq_false_iff.2 (fun h => Bool.noConfusion (e11 h).1)
            obtain rfl : b12 = false := Bool.eq_false_iff.2 (fun h => Bool.noConfusion (e12 h).1)
            obtain rfl : b13 = false := Bool.eq_false_iff.2 (fun h => Bool.noConfusion (e13 h).1)
            obtain rfl : b14 = false := Bool.eq_false_iff.2 (fun h => Bool.noConfusion (e14 h))
            obtain rfl : b15 = false := Bool.eq_false_iff.2 (fun h => Bool.noConfusion (e15 h))
            obtain rfl : b16 = false := Bool.eq_false_iff.2 (fun h => Bool.noConfusion (e16 h))
            obtain rfl : b17 = false := Bool.eq_false_iff.2 (fun h => Bool.noConfusion (e17 h).1)
            obtain rfl : b18 = false := Bool.eq_false_iff.2 (fun h => Bool.noConfusion (e18 h).1)
            obtain rfl : b19 = false := Bool.eq_false_iff.2 (fun h => Bool.noConfusion (e19 h).1)
            obtain rfl : b20 = false := Bool.eq_false_iff.2 (fun h => Bool.noConfusion (e20 h))
            obtain rfl : b21 = false := Bool.eq_false_iff.2 (fun h => Bool.noConfusion (e21 h))
            obtain rfl : b22 = false := Bool.eq_false_iff.2 (fun h => Bool.noConfusion (e22 h).1)
            obtain rfl : b23 = false := Bool.eq_false_iff.2 (fun h => Bool.noConfusion (e23 h).1)
            obtain rfl : b24 = false := Bool.eq_false_iff.2 (fun h => Bool.noConfusion (e24 h).1)
            obtain rfl : b25 = false := Bool.eq_false_iff.2 (fun h => Bool.noConfusion (e25 h).1)
            obtain rfl : b26 = false := Bool.eq_false_iff.2 (fun h => Bool.noConfusion (e26 h).1)
            refine wpOpIn_step rfl (fun K hK => ?_)
            clear hun hdep hi
            go_simp
            refine hK _ _ ⟨true, true, true, true, true, true, false, false, false, false, false, false, false, false, false, false, false, false, false, false, false, false, false, false, false, false, false, ⟨fun _ => ⟨rfl, rfl⟩, fun _ => rfl, fun _ => rfl, fun _ => rfl, fun h => Bool.noConfusion h, fun h => Bool.noConfusion h, fun h => Bool.noConfusion h, fun h => Bool.noConfusion h, fun h => Bool.noConfusion h, fun h => Bool.noConfusion h, fun h => Bool.noConfusion h, fun h => Bool.noConfusion h, fun h => Bool.noConfusion h, fun h => Bool.noConfusion h, fun h => Bool.noConfusion h, fun h => Bool.noConfusion h, fun h => Bool.noConfusion h, fun h => Bool.noConfusion h, fun h => Bool.noConfusion h, fun h => Bool.noConfusion h, fun h => Bool.noConfusion h, fun h => Bool.noConfusion h, fun h => Bool.noConfusion h, fun h => Bool.noConfusion h, fun h => Bool.noConfusion h⟩, rfl, rfl, hR⟩
          · -- 6
            simp only [List.getElem?_toArray, List.getElem?_cons_succ, List.getElem?_cons_zero, Option.some.injEq] at ho
            subst ho
            have hbi : b6 = false := by simpa using hun
            subst hbi
            have hd5 : b5 = true := by have := hdep ⟨5, .data⟩ (by simp) rfl; simpa using this
            have hd4 : b4 = true := (e5 hd5)
            have hd3 : b3 = true := (e4 hd4)
            have hd2 : b2 = true := (e3 hd3)
            have hd1 : b1 = true := (e2 hd2).2
            have hd0 : b0 = true := (e2 hd2).1
            subst hd0 hd1 hd2 hd3 hd4 hd5
            obtain rfl : b7 = false := Bool.eq_false_iff.2 (fun h => Bool.noConfusion (e7 h))
            obtain rfl : b8 = false := Bool.eq_false_iff.2 (fun h => Bool.noConfusion (e8 h))
            obtain rfl : b9 = false := Bool.eq_false_iff.2 (fun h => Bool.noConfusion (e9 h).1)
            obtain rfl : b10 = false := Bool.eq_false_iff.2 (fun h => Bool.noConfusion (e10 h).1)
            obtain rfl : b11 = false := Bool.eq_false_iff.2 (fun h => Bool.noConfusion (e11 h).1)
            obtain rfl : b12 = false := Bool.eq_false_iff.2 (fun h => Bool.noConfusion (e12 h).1)
            obtain rfl : b13 = false := Bool.eq_false_iff.2 (fun h => Bool.noConfusion (e13 h).1)
            obtain rfl : b14 = false := Bool.eq_false_iff.2 (fun h => Bool.noConfusion (e14 h))
            obtain rfl : b15 = false := Bool.eq_false_iff.2 (fun h => Bool.noConfusion (e15 h))
            obtain rfl : b16 = false := Bool.eq_false_iff.2 (fun h => Bool.noConfusion (e16 h))
            obtain rfl : b17 = false := Bool.eq_false_iff.2 (fun h => Bool.noConfusion (e17 h).1)
            obtain rfl : b18 = false := Bool.eq_false_iff.2 (fun h => Bool.noConfusion (e18 h).1)
            obtain rfl : b19 = false := Bool.eq_false_iff.2 (fun h => Bool.noConfusion (e19 h).1)
            obtain rfl : b20 = false := Bool.eq_false_iff.2 (fun h => Bool.noConfusion (e20 h))
            obtain rfl : b21 = false := Bool.eq_false_iff.2 (fun h => Bool.noConfusion (e21 h))
            obtain rfl : b22 = false := Bool.eq_false_iff.2 (fun h => Bool.noConfusion (e22 h).1)
            obtain rfl : b23 = false := Bool.eq_false_iff.2 (fun h => Bool.noConfusion (e23 h).1)
            obtain rfl : b24 = false := Bool.eq_false_iff.2 (fun h => Bool.noConfusion (e24 h).1)
            obtain rfl : b25 = false := Bool.eq_false_iff.2 (fun h => Bool.noConfusion (e25 h).1)
            obtain rfl : b26 = false := Bool.eq_false_iff.2 (fun h => Bool.noConfusion (e26 h).1)
            refine wpOpIn_step rfl (fun K hK => ?_)
            clear hun hdep hi
            go_simp
            refine hK _ _ ⟨true, true, true, true, true, true, true, false, false, false, false, false, false, false, false, false, false, false, false, false, false, false, false, false, false, false, false, ⟨fun _ => ⟨rfl, rfl⟩, fun _ => rfl, fun _ => rfl, fun _ => rfl, fun _ => rfl, fun h => Bool.noConfusion h, fun h => Bool.noConfusion h, fun h => Bool.noConfusion h, fun h => Bool.noConfusion h, fun h => Bool.noConfusion h, fun h => Bool.noConfusion h, fun h => Bool.noConfusion h, fun h => Bool.noConfusion h, fun h => Bool.noConfusion h, fun h => Bool.noConfusion h, fun h => Bool.noConfusion h, fun h => Bool.noConfusion h, fun h => Bool.noConfusion h, fun h => Bool.noConfusion h, fun h => Bool.noConfusion h, fun h => Bool.noConfusion h, fun h => Bool.noConfusion h, fun h => Bool.noConfusion h, fun h => Bool.noConfusion h, fun h => Bool.noConfusion h⟩, rfl, rfl, hR⟩
          · -- 7
            simp only [List.getElem?_toArray, List.getElem?_cons_succ, List.getElem?_cons_zero, Option.some.injEq] at ho
            subst ho
            have hbi : b7 = false := by simpa using hun
            subst hbi
            have hd6 : b6 = true := by have := hdep ⟨6, .guard⟩ (by simp) rfl; simpa using this
            have hd5 : b5 = true := (e6 hd6)
            have hd4 : b4 = true := (e5 hd5)
            have hd3 : b3 = true := (e4 hd4)
            have hd2 : b2 = true := (e3 hd3)
            have hd1 : b1 = true := (e2 hd2).2
            have hd0 : b0 = true := (e2 hd2).1
            subst hd0 hd1 hd2 hd3 hd4 hd5 hd6
            obtain rfl : b9 = false := Bool.eq_false_iff.2 (fun h => Bool.noConfusion (e9 h).1)
            obtain rfl : b10 = false := Bool.eq_false_iff.2 (fun h => Bool.noConfusion (e10 h).1)
            obtain rfl : b11 = false := Bool.eq_false_iff.2 (fun h => Bool.noConfusion (e11 h).1)
            obtain rfl : b12 = false := Bool.eq_false_iff.2 (fun h => Bool.noConfusion (e12 h).1)
            obtain rfl : b13 = false := Bool.eq_false_iff.2 (fun h => Bool.noConfusion (e13 h).2)
            obtain rfl : b14 = false := Bool.eq_false_iff.2 (fun h => Bool.noConfusion (e14 h))
            obtain rfl : b15 = false := Bool.eq_false_iff.2 (fun h => Bool.noConfusion (e15 h))
            obtain rfl : b16 = false := Bool.eq_false_iff.2 (fun h => Bool.noConfusion (e16 h))
            obtain rfl : b17 = false := Bool.eq_false_iff.2 (fun h => Bool.noConfusion (e17 h).1)
            obtain rfl : b18 = false := Bool.eq_false_iff.2 (fun h => Bool.noConfusion (e18 h).1)
            obtain rfl : b19 = false := Bool.eq_false_iff.2 (fun h => Bool.noConfusion (e19 h).1)
            obtain rfl : b20 = false := Bool.eq_false_iff.2 (fun h => Bool.noConfusion (e20 h))
            obtain rfl : b21 = false := Bool.eq_false_iff.2 (fun h => Bool.noConfusion (e21 h))
            obtain rfl : b22 = false := Bool.eq_false_iff.2 (fun h => Bool.noConfusion (e22 h).1)
            obtain rfl : b23 = false := Bool.eq_false_iff.2 (fun h => Bool.noConfusion (e23 h).1)
            obtain rfl : b24 = false := Bool.eq_false_iff.2 (fun h => Bool.noConfusion (e24 h).1)
            obtain rfl : b25 = false := Bool.eq_false_iff.2 (fun h => Bool.noConfusion (e25 h).1)
            obtain rfl : b26 = false := Bool.eq_false_iff.2 (fun h => Bool.noConfusion (e26 h).1)
            refine wpOpIn_step rfl (fun K hK => ?_)
            clear hun hdep hi
            go_simp
            refine hK _ _ ⟨true, true, true, true, true, true, true, true, b8, false, false, false, false, false, false, false, false, false, false, false, false, false, false, false, false, false, false, ⟨fun _ => ⟨rfl, rfl⟩, fun _ => rfl, fun _ => rfl, fun _ => rfl, fun _ => rfl, fun _ => rfl, e8, fun h => Bool.noConfusion h, fun h => Bool.noConfusion h, fun h => Bool.noConfusion h, fun h => Bool.noConfusion h, fun h => Bool.noConfusion h, fun h => Bool.noConfusion h, fun h => Bool.noConfusion h, fun h => Bool.noConfusion h, fun h => Bool.noConfusion h, fun h => Bool.noConfusion h, fun h => Bool.noConfusion h, fun h => Bool.noConfusion h, fun h => Bool.noConfusion h, fun h => Bool.noConfusion h, fun h => Bool.noConfusion h, fun h => Bool.noConfusion h, fun h => Bool.noConfusion h, fun h => Bool.noConfusion h⟩, rfl, rfl, hR⟩
          · -- 8
            simp only [List.getElem?_toArray, List.getElem?_cons_succ, List.getElem?_cons_zero, Option.some.injEq] at ho
            subst ho
            have hbi : b8 = false := by simpa using hun
            subst hbi
            have hd6 : b6 = true := by have := hdep ⟨6, .guard⟩ (by simp) rfl; simpa using this
            have hd5 : b5 = true := (e6 hd6)
            have hd4 : b4 = true := (e5 hd5)
            have hd3 : b3 = true := (e4 hd4)
            have hd2 : b2 = true := (e3 hd3)
            have hd1 : b1 = true := (e2 hd2).2
            have hd0 : b0 = true := (e2 hd2).1
            subst hd0 hd1 hd2 hd3 hd4 hd5 hd6
            obtain rfl : b9 = false := Bool.eq_false_iff.2 (fun h => Bool.noConfusion (e9 h).2.1)
            obtain rfl : b10 = false := Bool.eq_false_iff.2 (fun h => Bool.noConfusion (e10 h).1)
            obtain rfl : b11 = false := Bool.eq_false_iff.2 (fun h => Bool.noConfusion (e11 h).1)
            obtain rfl : b12 = false := Bool.eq_false_iff.2 (fun h => Bool.noConfusion (e12 h).1)
            obtain rfl : b13 = false := Bool.eq_false_iff.2 (fun h => Bool.noConfusion (e13 h).2)
            obtain rfl : b14 = false := Bool.eq_false_iff.2 (fun h => Bool.noConfusion (e14 h))
            obtain rfl : b15 = false := Bool.eq_false_iff.2 (fun h => Bool.noConfusion (e15 h))
            obtain rfl : b16 = false := Bool.eq_false_iff.2 (fun h => Bool.noConfusion (e16 h))
            obtain rfl : b17 = false := Bool.eq_false_iff.2 (fun h => Bool.noConfusion (e17 h).1)
            obtain rfl : b18 = false := Bool.eq_false_iff.2 (fun h => Bool.noConfusion (e18 h).1)
            obtain rfl : b19 = false := Bool.eq_false_iff.2 (fun h => Bool.noConfusion (e19 h).1)
            obtain rfl : b20 = false := Bool.eq_false_iff.2 (fun h => Bool.noConfusion (e20 h))
            obtain rfl : b21 = false := Bool.eq_false_iff.2 (fun h => Bool.noConfusion (e21 h))
            obtain rfl : b22 = false := Bool.eq_false_iff.2 (fun h => Bool.noConfusion (e22 h).1)
            obtain rfl : b23 = false := Bool.eq_false_iff.2 (fun h => Bool.noConfusion (e23 h).1)
            obtain rfl : b24 = false := Bool.eq_false_iff.2 (fun h => Bool.noConfusion (e24 h).1)
            obtain rfl : b25 = false := Bool.eq_false_iff.2 (fun h => Bool.noConfusion (e25 h).1)
            obtain rfl : b26 = false := Bool.eq_false_iff.2 (fun h => Bool.noConfusion (e26 h).1)
            refine wpOpIn_step rfl (fun K hK => ?_)
            clear hun hdep hi
            go_simp
            refine hK _ _ ⟨true, true, true, true, true, true, true, b7, true, false, false, false, false, false, false, false, false, false, false, false, false, false, false, false, false, false, false, ⟨fun _ => ⟨rfl, rfl⟩, fun _ => rfl, fun _ => rfl, fun _ => rfl, fun _ => rfl, e7, fun _ => rfl, fun h => Bool.noConfusion h, fun h => Bool.noConfusion h, fun h => Bool.noConfusion h, fun h => Bool.noConfusion h, fun h => Bool.noConfusion h, fun h => Bool.noConfusion h, fun h => Bool.noConfusion h, fun h => Bool.noConfusion h, fun h => Bool.noConfusion h, fun h => Bool.noConfusion h, fun h => Bool.noConfusion h, fun h => Bool.noConfusion h, fun h => Bool.noConfusion h, fun h => Bool.noConfusion h, fun h => Bool.noConfusion h, fun h => Bool.noConfusion h, fun h => Bool.noConfusion h, fun h => Bool.noConfusion h⟩, rfl, rfl, hR⟩
          · -- 9
            simp only [List.getElem?_toArray, List.getElem?_cons_succ, List.getElem?_cons_zero, Option.some.injEq] at ho
            subst ho
            have hbi : b9 = false := by simpa using hun
            subst hbi
            have hd6 : b6 = true := by have := hdep ⟨6, .guard⟩ (by simp) rfl; simpa using this
            have hd7 : b7 = true := by have := hdep ⟨7, .data⟩ (by simp) rfl; simpa using this
            have hd8 : b8 = true := by have := hdep ⟨8, .data⟩ (by simp) rfl; simpa using this
            have hd5 : b5 = true := (e6 hd6)
            have hd4 : b4 = true := (e5 hd5)
            have hd3 : b3 = true := (e4 hd4)
            have hd2 : b2 = true := (e3 hd3)
            have hd1 : b1 = true := (e2 hd2).2
            have hd0 : b0 = true := (e2 hd2).1
            subst hd0 hd1 hd2 hd3 hd4 hd5 hd6 hd7 hd8
            obtain rfl : b10 = false := Bool.eq_false_iff.2 (fun h => Bool.noConfusion (e10 h).1)
            obtain rfl : b11 = false := Bool.eq_false_iff.2 (fun h => Bool.noConfusion (e11 h).1)
            obtain rfl : b12 = false := Bool.eq_false_iff.2 (fun h => Bool.noConfusion (e12 h).1)
            obtain rfl : b13 = false := Bool.eq_false_iff.2 (fun h => Bool.noConfusion (e13 h).2)
            obtain rfl : b14 = false := Bool.eq_false_iff.2 (fun h => Bool.noConfusion (e14 h))
            obtain rfl : b15 = false := Bool.eq_false_iff.2 (fun h => Bool.noConfusion (e15 h))
            obtain rfl : b16 = false := Bool.eq_false_iff.2 (fun h => Bool.noConfusion (e16 h))
            obtain rfl : b17 = false := Bool.eq_false_iff.2 (fun h => Bool.noConfusion (e17 h).1)
            obtain rfl : b18 = false := Bool.eq_false_iff.2 (fun h => Bool.noConfusion (e18 h).1)
            obtain rfl : b19 = false := Bool.eq_false_iff.2 (fun h => Bool.noConfusion (e19 h).1)
            obtain rfl : b20 = false := Bool.eq_false_iff.2 (fun h => Bool.noConfusion (e20 h))
            obtain rfl : b21 = false := Bool.eq_false_iff.2 (fun h => Bool.noConfusion (e21 h))
            obtain rfl : b22 = false := Bool.eq_false_iff.2 (fun h => Bool.noConfusion (e22 h).1)
            obtain rfl : b23 = false := Bool.eq_false_iff.2 (fun h => Bool.noConfusion (e23 h).1)
            obtain rfl : b24 = false := Bool.eq_false_iff.2 (fun h => Bool.noConfusion (e24 h).1)
            obtain rfl : b25 = false := Bool.eq_false_iff.2 (fun h => Bool.noConfusion (e25 h).1)
            obtain rfl : b26 = false := Bool.eq_false_iff.2 (fun h => Bool.noConfusion (e26 h).1)
            refine wpOpIn_step rfl (fun K hK => ?_)
            clear hun hdep hi
            go_simp
            refine hK _ _ ⟨true, true, true, true, true, true, true, true, true, true, false, false, false, false, false, false, false, false, false, false, false, false, false, false, false, false, false, ⟨fun _ => ⟨rfl, rfl⟩, fun _ => rfl, fun _ => rfl, fun _ => rfl, fun _ => rfl, fun _ => rfl, fun _ => rfl, fun _ => ⟨rfl, rfl, rfl⟩, fun h => Bool.noConfusion h, fun h => Bool.noConfusion h, fun h => Bool.noConfusion h, fun h => Bool.noConfusion h, fun h => Bool.noConfusion h, fun h => Bool.noConfusion h, fun h => Bool.noConfusion h, fun h => Bool.noConfusion h, fun h => Bool.noConfusion h, fun h => Bool.noConfusion h, fun h => Bool.noConfusion h, fun h => Bool.noConfusion h, fun h => Bool.noConfusion h, fun h => Bool.noConfusion h, fun h => Bool.noConfusion h, fun h => Bool.noConfusion h, fun h => Bool.noConfusion h⟩, rfl, rfl, hR⟩
          · -- 10
            simp only [List.getElem?_toArray, List.getElem?_cons_succ, List.getElem?_cons_zero, Option.some.injEq] at ho
            subst ho
            have hbi : b10 = false := by simpa using hun
            subst hbi
            have hd6 : b6 = true := by have := hdep ⟨6, .guard⟩ (by simp) rfl; simpa using this
            have hd9 : b9 = true := by have := hdep ⟨9, .data⟩ (by simp) rfl; simpa using this
            have hd8 : b8 = true := (e9 hd9).2.1
            have hd7 : b7 = true := (e9 hd9).1
            have hd5 : b5 = true := (e6 hd6)
            have hd4 : b4 = true := (e5 hd5)
            have hd3 : b3 = true := (e4 hd4)
            have hd2 : b2 = true := (e3 hd3)
            have hd1 : b1 = true := (e2 hd2).2
            have hd0 : b0 = true := (e2 hd2).1
            subst hd0 hd1 hd2 hd3 hd4 hd5 hd6 hd7 hd8 hd9
            obtain rfl : b11 = false := Bool.eq_false_iff.2 (fun h => Bool.noConfusion (e11 h).1)
            obtain rfl : b12 = false := Bool.eq_false_iff.2 (fun h => Bool.noConfusion (e12 h).1)
            obtain rfl : b13 = false := Bool.eq_false_iff.2 (fun h => Bool.noConfusion (e13 h).2)
            obtain rfl : b14 = false := Bool.eq_false_iff.2 (fun h => Bool.noConfusion (e14 h))
            obtain rfl : b15 = false := Bool.eq_false_iff.2 (fun h => Bool.noConfusion (e15 h))
            obtain rfl : b16 = false := Bool.eq_false_iff.2 (fun h => Bool.noConfusion (e16 h))
            obtain rfl : b17 = false := Bool.eq_false_iff.2 (fun h => Bool.noConfusion (e17 h).1)
            obtain rfl : b18 = false := Bool.eq_false_iff.2 (fun h => Bool.noConfusion (e18 h).1)
            obtain rfl : b19 = false := Bool.eq_false_iff.2 (fun h => Bool.noConfusion (e19 h).1)
            obtain rfl : b20 = false := Bool.eq_false_iff.2 (fun h => Bool.noConfusion (e20 h))
            obtain rfl : b21 = false := Bool.eq_false_iff.2 (fun h => Bool.noConfusion (e21 h))
            obtain rfl : b22 = false := Bool.eq_false_iff.2 (fun h => Bool.noConfusion (e22 h).1)
            obtain rfl : b23 = false := Bool.eq_false_iff.2 (fun h => Bool.noConfusion (e23 h).1)
            obtain rfl : b24 = false := Bool.eq_false_iff.2 (fun h => Bool.noConfusion (e24 h).1)
            obtain rfl : b25 = false := Bool.eq_false_iff.2 (fun h => Bool.noConfusion (e25 h).1)
            obtain rfl : b26 = false := Bool.eq_false_iff.2 (fun h => Bool.noConfusion (e26 h).1)
            refine wpOpIn_step rfl (fun K hK => ?_)
            clear hun hdep hi
            go_simp
            refine hK _ _ ⟨true, true, true, true, true, true, true, true, true, true, true, false, false, false, false, false, false, false, false, false, false, false, false, false, false, false, false, ⟨fun _ => ⟨rfl, rfl⟩, fun _ => rfl, fun _ => rfl, fun _ => rfl, fun _ => rfl, fun _ => rfl, fun _ => rfl, fun _ => ⟨rfl, rfl, rfl⟩, fun _ => ⟨rfl, rfl⟩, fun h => Bool.noConfusion h, fun h => Bool.noConfusion h, fun h => Bool.noConfusion h, fun h => Bool.noConfusion h, fun h => Bool.noConfusion h, fun h => Bool.noConfusion h, fun h => Bool.noConfusion h, fun h => Bool.noConfusion h, fun h => Bool.noConfusion h, fun h => Bool.noConfusion h, fun h => Bool.noConfusion h, fun h => Bool.noConfusion h, fun h => Bool.noConfusion h, fun h => Bool.noConfusion h, fun h => Bool.noConfusion h, fun h => Bool.noConfusion h⟩, rfl, rfl, hR⟩
          · -- 11
            simp only [List.getElem?_toArray, List.getElem?_cons_succ, List.getElem?_cons_zero, Option.some.injEq] at ho
            subst ho
            have hbi : b11 = false := by simpa using hun
            subst hbi
            have hd6 : b6 = true := by have := hdep ⟨6, .guard⟩ (by simp) rfl; simpa using this
            have hd10 : b10 = true := by have := hdep ⟨10, .data⟩ (by simp) rfl; simpa using this
            have hd9 : b9 = true := (e10 hd10).1
            have hd8 : b8 = true := (e9 hd9).2.1
            have hd7 : b7 = true := (e9 hd9).1
            have hd5 : b5 = true := (e6 hd6)
            have hd4 : b4 = true := (e5 hd5)
            have hd3 : b3 = true := (e4 hd4)
            have hd2 : b2 = true := (e3 hd3)
            have hd1 : b1 = true := (e2 hd2).2
            have hd0 : b0 = true := (e2 hd2).1
            subst hd0 hd1 hd2 hd3 hd4 hd5 hd6 hd7 hd8 hd9 hd10
            obtain rfl : b12 = false := Bool.eq_false_iff.2 (fun h => Bool.noConfusion (e12 h).1)
            obtain rfl : b13 = false := Bool.eq_false_iff.2 (fun h => Bool.noConfusion (e13 h).2)
            obtain rfl : b14 = false := Bool.eq_false_iff.2 (fun h => Bool.noConfusion (e14 h))
            obtain rfl : b15 = false := Bool.eq_false_iff.2 (fun h => Bool.noConfusion (e15 h))
            obtain rfl : b16 = false := Bool.eq_false_iff.2 (fun h => Bool.noConfusion (e16 h))
            obtain rfl : b17 = false := Bool.eq_false_iff.2 (fun h => Bool.noConfusion (e17 h).1)
            obtain rfl : b18 = false := Bool.eq_false_iff.2 (fun h => Bool.noConfusion (e18 h).1)
            obtain rfl : b19 = false := Bool.eq_false_iff.2 (fun h => Bool.noConfusion (e19 h).1)
            obtain rfl : b20 = false := Bool.eq_false_iff.2 (fun h => Bool.noConfusion (e20 h))
            obtain rfl : b21 = false := Bool.eq_false_iff.2 (fun h => Bool.noConfusion (e21 h))
            obtain rfl : b22 = false := Bool.eq_false_iff.2 (fun h => Bool.noConfusion (e22 h).1)
            obtain rfl : b23 = false := Bool.eq_false_iff.2 (fun h => Bool.noConfusion (e23 h).1)
            obtain rfl : b24 = false := Bool.eq_false_iff.2 (fun h => Bool.noConfusion (e24 h).1)
            obtain rfl : b25 = false := Bool.eq_false_iff.2 (fun h => Bool.noConfusion (e25 h).1)
            obtain rfl : b26 = false := Bool.eq_false_iff.2 (fun h => Bool.noConfusion (e26 h).1)
            refine wpOpIn_step rfl (fun K hK => ?_)
            clear hun hdep hi
            have t0 := hc1 w' hR
            go_simp
            refine hK _ _ ⟨true, true, true, true, true, true, true, true, true, true, true, true, false, false, false, false, false, false, false, false, false, false, false, false, false, false, false, ⟨fun _ => ⟨rfl, rfl⟩, fun _ => rfl, fun _ => rfl, fun _ => rfl, fun _ => rfl, fun _ => rfl, fun _ => rfl, fun _ => ⟨rfl, rfl, rfl⟩, fun _ => ⟨rfl, rfl⟩, fun _ => ⟨rfl, rfl⟩, fun h => Bool.noConfusion h, fun h => Bool.noConfusion h, fun h => Bool.noConfusion h, fun h => Bool.noConfusion h, fun h => Bool.noConfusion h, fun h => Bool.noConfusion h, fun h => Bool.noConfusion h, fun h => Bool.noConfusion h, fun h => Bool.noConfusion h, fun h => Bool.noConfusion h, fun h => Bool.noConfusion h, fun h => Bool.noConfusion h, fun h => Bool.noConfusion h, fun h => Bool.noConfusion h, fun h => Bool.noConfusion h⟩, rfl, rfl, hR⟩
          · -- 12
            simp only [List.getElem?_toArray, List.getElem?_cons_succ, List.getElem?_cons_zero, Option.some.injEq] at ho
            subst ho
            have hbi : b12 = false := by simpa using hun
            subst hbi
            have hd6 : b6 = true := by have := hdep ⟨6, .guard⟩ (by simp) rfl; simpa using this
            have hd11 : b11 = true := by have := hdep ⟨11, .data⟩ (by simp) rfl; simpa using this
            have hd10 : b10 = true := (e11 hd11).1
            have hd9 : b9 = true := (e10 hd10).1
            have hd8 : b8 = true := (e9 hd9).2.1
            have hd7 : b7 = true := (e9 hd9).1
            have hd5 : b5 = true := (e6 hd6)
            have hd4 : b4 = true := (e5 hd5)
            have hd3 : b3 = true := (e4 hd4)
            have hd2 : b2 = true := (e3 hd3)
            have hd1 : b1 = true := (e2 hd2).2
            have hd0 : b0 = true := (e2 hd2).1
            subst hd0 hd1 hd2 hd3 hd4 hd5 hd6 hd7 hd8 hd9 hd10 hd11
            obtain rfl : b13 = false := Bool.eq_false_iff.2 (fun h => Bool.noConfusion (e13 h).2)
            obtain rfl : b14 = false := Bool.eq_false_iff.2 (fun h => Bool.noConfusion (e14 h))
            obtain rfl : b15 = false := Bool.eq_false_iff.2 (fun h => Bool.noConfusion (e15 h))
            obtain rfl : b16 = false := Bool.eq_false_iff.2 (fun h => Bool.noConfusion (e16 h))
            obtain rfl : b17 = false := Bool.eq_false_iff.2 (fun h => Bool.noConfusion (e17 h).1)
            obtain rfl : b18 = false := Bool.eq_false_iff.2 (fun h => Bool.noConfusion (e18 h).1)
            obtain rfl : b19 = false := Bool.eq_false_iff.2 (fun h => Bool.noConfusion (e19 h).1)
            obtain rfl : b20 = false := Bool.eq_false_iff.2 (fun h => Bool.noConfusion (e20 h))
            obtain rfl : b21 = false := Bool.eq_false_iff.2 (fun h => Bool.noConfusion (e21 h))
            obtain rfl : b22 = false := Bool.eq_false_iff.2 (fun h => Bool.noConfusion (e22 h).1)
            obtain rfl : b23 = false := Bool.eq_false_iff.2 (fun h => Bool.noConfusion (e23 h).1)
            obtain rfl : b24 = false := Bool.eq_false_iff.2 (fun h => Bool.noConfusion (e24 h).1)
            obtain rfl : b25 = false := Bool.eq_false_iff.2 (fun h => Bool.noConfusion (e25 h).1)
            obtain rfl : b26 = false := Bool.eq_false_iff.2 (fun h => Bool.noConfusion (e26 h).1)
            refine wpOpIn_step rfl (fun K hK => ?_)
            clear hun hdep hi
            go_simp
            refine hK _ _ ⟨true, true, true, true, true, true, true, true, true, true, true, true, true, false, false, false, false, false, false, false, false, false, false, false, false, false, false, ⟨fun _ => ⟨rfl, rfl⟩, fun _ => rfl, fun _ => rfl, fun _ => rfl, fun _ => rfl, fun _ => rfl, fun _ => rfl, fun _ => ⟨rfl, rfl, rfl⟩, fun _ => ⟨rfl, rfl⟩, fun _ => ⟨rfl, rfl⟩, fun _ => ⟨rfl, rfl⟩, fun h => Bool.noConfusion h, fun h => Bool.noConfusion h, fun h => Bool.noConfusion h, fun h => Bool.noConfusion h, fun h => Bool.noConfusion h, fun h => Bool.noConfusion h, fun h => Bool.noConfusion h, fun h => Bool.noConfusion h, fun h => Bool.noConfusion h, fun h => Bool.noConfusion h, fun h => Bool.noConfusion h, fun h => Bool.noConfusion h, fun h => Bool.noConfusion h, fun h => Bool.noConfusion h⟩, rfl, rfl, hR⟩
          · -- 13
            simp only [List.getElem?_toArray, List.getElem?_cons_succ, List.getElem?_cons_zero, Option.some.injEq] at ho
            subst ho
            have hbi : b13 = false := by simpa using hun
            subst hbi
            have hd6 : b6 = true := by have := hdep ⟨6, .data⟩ (by simp) rfl; simpa using this
            have hd12 : b12 = true := by have := hdep ⟨12, .data⟩ (by simp) rfl; simpa using this
            have hd11 : b11 = true := (e12 hd12).1
            have hd10 : b10 = true := (e11 hd11).1
            have hd9 : b9 = true := (e10 hd10).1
            have hd8 : b8 = true := (e9 hd9).2.1
            have hd7 : b7 = true := (e9 hd9).1
            have hd5 : b5 = true := (e6 hd6)
            have hd4 : b4 = true := (e5 hd5)
            have hd3 : b3 = true := (e4 hd4)
            have hd2 : b2 = true := (e3 hd3)
            have hd1 : b1 = true := (e2 hd2).2
            have hd0 : b0 = true := (e2 hd2).1
            subst hd0 hd1 hd2 hd3 hd4 hd5 hd6 hd7 hd8 hd9 hd10 hd11 hd12
            obtain rfl : b14 = false := Bool.eq_false_iff.2 (fun h => Bool.noConfusion (e14 h))
            obtain rfl : b15 = false := Bool.eq_false_iff.2 (fun h => Bool.noConfusion (e15 h))
            obtain rfl : b16 = false := Bool.eq_false_iff.2 (fun h => Bool.noConfusion (e16 h))
            obtain rfl : b17 = false := Bool.eq_false_iff.2 (fun h => Bool.noConfusion (e17 h).1)
            obtain rfl : b18 = false := Bool.eq_false_iff.2 (fun h => Bool.noConfusion (e18 h).1)
            obtain rfl : b19 = false := Bool.eq_false_iff.2 (fun h => Bool.noConfusion (e19 h).1)
            obtain rfl : b20 = false := Bool.eq_false_iff.2 (fun h => Bool.noConfusion (e20 h))
            obtain rfl : b21 = false := Bool.eq_false_iff.2 (fun h => Bool.noConfusion (e21 h))
            obtain rfl : b22 = false := Bool.eq_false_iff.2 (fun h => Bool.noConfusion (e22 h).1)
            obtain rfl : b23 = false := Bool.eq_false_iff.2 (fun h => Bool.noConfusion (e23 h).1)
            obtain rfl : b24 = false := Bool.eq_false_iff.2 (fun h => Bool.noConfusion (e24 h).1)
            obtain rfl : b25 = false := Bool.eq_false_iff.2 (fun h => Bool.noConfusion (e25 h).1)
            obtain rfl : b26 = false := Bool.eq_false_iff.2 (fun h => Bool.noConfusion (e26 h).1)
            refine wpOpIn_step rfl (fun K hK => ?_)
            clear hun hdep hi
            go_simp
            refine hK _ _ ⟨true, true, true, true, true, true, true, true, true, true, true, true, true, true, false, false, false, false, false, false, false, false, false, false, false, false, false, ⟨fun _ => ⟨rfl, rfl⟩, fun _ => rfl, fun _ => rfl, fun _ => rfl, fun _ => rfl, fun _ => rfl, fun _ => rfl, fun _ => ⟨rfl, rfl, rfl⟩, fun _ => ⟨rfl, rfl⟩, fun _ => ⟨rfl, rfl⟩, fun _ => ⟨rfl, rfl⟩, fun _ => ⟨rfl, rfl⟩, fun h => Bool.noConfusion h, fun h => Bool.noConfusion h, fun h => Bool.noConfusion h, fun h => Bool.noConfusion h, fun h => Bool.noConfusion h, fun h => Bool.noConfusion h, fun h => Bool.noConfusion h, fun h => Bool.noConfusion h, fun h => Bool.noConfusion h, fun h => Bool.noConfusion h, fun h => Bool.noConfusion h, fun h => Bool.noConfusion h, fun h => Bool.noConfusion h⟩, rfl, rfl, hR⟩
          · -- 14
            simp only [List.getElem?_toArray, List.getElem?_cons_succ, List.getElem?_cons_zero, Option.some.injEq] at ho
            subst ho
            have hbi : b14 = false := by simpa using hun
            subst hbi
            have hd13 : b13 = true := by have := hdep ⟨13, .data⟩ (by simp) rfl; simpa using this
            have hd12 : b12 = true := (e13 hd13).2
            have hd11 : b11 = true := (e12 hd12).1
            have hd10 : b10 = true := (e11 hd11).1
            have hd9 : b9 = true := (e10 hd10).1
            have hd8 : b8 = true := (e9 hd9).2.1
            have hd7 : b7 = true := (e9 hd9).1
            have hd6 : b6 = true := (e7 hd7)
            have hd5 : b5 = true := (e6 hd6)
            have hd4 : b4 = true := (e5 hd5)
            have hd3 : b3 = true := (e4 hd4)
            have hd2 : b2 = true := (e3 hd3)
            have hd1 : b1 = true := (e2 hd2).2
            have hd0 : b0 = true := (e2 hd2).1
            subst hd0 hd1 hd2 hd3 hd4 hd5 hd6 hd7 hd8 hd9 hd10 hd11 hd12 hd13
            obtain rfl : b15 = false := Bool.eq_false_iff.2 (fun h => Bool.noConfusion (e15 h))
            obtain rfl : b16 = false := Bool.eq_false_iff.2 (fun h => Bool.noConfusion (e16 h))
            obtain rfl : b17 = false := Bool.eq_false_iff.2 (fun h => Bool.noConfusion (e17 h).1)
            obtain rfl : b18 = false := Bool.eq_false_iff.2 (fun h => Bool.noConfusion (e18 h).1)
            obtain rfl : b19 = false := Bool.eq_false_iff.2 (fun h => Bool.noConfusion (e19 h).1)
            obtain rfl : b20 = false := Bool.eq_false_iff.2 (fun h => Bool.noConfusion (e20 h))
            obtain rfl : b21 = false := Bool.eq_false_iff.2 (fun h => Bool.noConfusion (e21 h))
            obtain rfl : b22 = false := Bool.eq_false_iff.2 (fun h => Bool.noConfusion (e22 h).1)
            obtain rfl : b23 = false := Bool.eq_false_iff.2 (fun h => Bool.noConfusion (e23 h).1)
            obtain rfl : b24 = false := Bool.eq_false_iff.2 (fun h => Bool.noConfusion (e24 h).1)
            obtain rfl : b25 = false := Bool.eq_false_iff.2 (fun h => Bool.noConfusion (e25 h).1)
            obtain rfl : b26 = false := Bool.eq_false_iff.2 (fun h => Bool.noConfusion (e26 h).1)
            refine wpOpIn_step rfl (fun K hK => ?_)
            clear hun hdep hi
            go_simp
            refine hK _ _ ⟨true, true, true, true, true, true, true, true, true, true, true, true, true, true, true, false, false, false, false, false, false, false, false, false, false, false, false, ⟨fun _ => ⟨rfl, rfl⟩, fun _ => rfl, fun _ => rfl, fun _ => rfl, fun _ => rfl, fun _ => rfl, fun _ => rfl, fun _ => ⟨rfl, rfl, rfl⟩, fun _ => ⟨rfl, rfl⟩, fun _ => ⟨rfl, rfl⟩, fun _ => ⟨rfl, rfl⟩, fun _ => ⟨rfl, rfl⟩, fun _ => rfl, fun h => Bool.noConfusion h, fun h => Bool.noConfusion h, fun h => Bool.noConfusion h, fun h => Bool.noConfusion h, fun h => Bool.noConfusion h, fun h => Bool.noConfusion h, fun h => Bool.noConfusion h, fun h => Bool.noConfusion h, fun h => Bool.noConfusion h, fun h => Bool.noConfusion h, fun h => Bool.noConfusion h, fun h => Bool.noConfusion h⟩, rfl, rfl, hR⟩
          · -- 15
            simp only [List.getElem?_toArray, List.getElem?_cons_succ, List.getElem?_cons_zero, Option.some.injEq] at ho
            subst ho
            have hbi : b15 = false := by simpa using hun
            subst hbi
            have hd14 : b14 = true := by have := hdep ⟨14, .guard⟩ (by simp) rfl; simpa using this
            have hd13 : b13 = true := (e14 hd14)
            have hd12 : b12 = true := (e13 hd13).2
            have hd11 : b11 = true := (e12 hd12).1
            have hd10 : b10 = true := (e11 hd11).1
            have hd9 : b9 = true := (e10 hd10).1
            have hd8 : b8 = true := (e9 hd9).2.1
            have hd7 : b7 = true := (e9 hd9).1
            have hd6 : b6 = true := (e7 hd7)
            have hd5 : b5 = true := (e6 hd6)
            have hd4 : b4 = true := (e5 hd5)
            have hd3 : b3 = true := (e4 hd4)
            have hd2 : b2 = true := (e3 hd3)
            have hd1 : b1 = true := (e2 hd2).2
            have hd0 : b0 = true := (e2 hd2).1
            subst hd0 hd1 hd2 hd3 hd4 hd5 hd6 hd7 hd8 hd9 hd10 hd11 hd12 hd13 hd14
            obtain rfl : b17 = false := Bool.eq_false_iff.2 (fun h => Bool.noConfusion (e17 h).1)
            obtain rfl : b18 = false := Bool.eq_false_iff.2 (fun h => Bool.noConfusion (e18 h).1)
            obtain rfl : b19 = false := Bool.eq_false_iff.2 (fun h => Bool.noConfusion (e19 h).1)
            obtain rfl : b25 = false := Bool.eq_false_iff.2 (fun h => Bool.noConfusion (e25 h).1)
            obtain rfl : b26 = false := Bool.eq_false_iff.2 (fun h => Bool.noConfusion (e26 h).2)
            refine wpOpIn_step rfl (fun K hK => ?_)
            clear hun hdep hi
            go_simp
            refine hK _ _ ⟨true, true, true, true, true, true, true, true, true, true, true, true, true, true, true, true, b16, false, false, false, b20, b21, b22, b23, b24, false, false, ⟨fun _ => ⟨rfl, rfl⟩, fun _ => rfl, fun _ => rfl, fun _ => rfl, fun _ => rfl, fun _ => rfl, fun _ => rfl, fun _ => ⟨rfl, rfl, rfl⟩, fun _ => ⟨rfl, rfl⟩, fun _ => ⟨rfl, rfl⟩, fun _ => ⟨rfl, rfl⟩, fun _ => ⟨rfl, rfl⟩, fun _ => rfl, fun _ => rfl, e16, fun h => Bool.noConfusion h, fun h => Bool.noConfusion h, fun h => Bool.noConfusion h, e20, e21, e22, e23, e24, fun h => Bool.noConfusion h, fun h => Bool.noConfusion h⟩, rfl, rfl, hR⟩
          · -- 16
            simp only [List.getElem?_toArray, List.getElem?_cons_succ, List.getElem?_cons_zero, Option.some.injEq] at ho
            subst ho
            have hbi : b16 = false := by simpa using hun
            subst hbi
            have hd14 : b14 = true := by have := hdep ⟨14, .guard⟩ (by simp) rfl; simpa using this
            have hd13 : b13 = true := (e14 hd14)
            have hd12 : b12 = true := (e13 hd13).2
            have hd11 : b11 = true := (e12 hd12).1
            have hd10 : b10 = true := (e11 hd11).1
            have hd9 : b9 = true := (e10 hd10).1
            have hd8 : b8 = true := (e9 hd9).2.1
            have hd7 : b7 = true := (e9 hd9).1
            have hd6 : b6 = true := (e7 hd7)
            have hd5 : b5 = true := (e6 hd6)
            have hd4 : b4 = true := (e5 hd5)
            have hd3 : b3 = true := (e4 hd4)
            have hd2 : b2 = true := (e3 hd3)
            have hd1 : b1 = true := (e2 hd2).2
            have hd0 : b0 = true := (e2 hd2).1
            subst hd0 hd1 hd2 hd3 hd4 hd5 hd6 hd7 hd8 hd9 hd10 hd11 hd12 hd13 hd14
            obtain rfl : b17 = false := Bool.eq_false_iff.2 (fun h => Bool.noConfusion (e17 h).2.1)
            obtain rfl : b18 = false := Bool.eq_false_iff.2 (fun h => Bool.noConfusion (e18 h).1)
            obtain rfl : b19 = false := Bool.eq_false_iff.2 (fun h => Bool.noConfusion (e19 h).1)
            obtain rfl : b25 = false := Bool.eq_false_iff.2 (fun h => Bool.noConfusion (e25 h).1)
            obtain rfl : b26 = false := Bool.eq_false_iff.2 (fun h => Bool.noConfusion (e26 h).2)
            refine wpOpIn_step rfl (fun K hK => ?_)
            clear hun hdep hi
            go_simp
            refine hK _ _ ⟨true, true, true, true, true, true, true, true, true, true, true, true, true, true, true, b15, true, false, false, false, b20, b21, b22, b23, b24, false, false, ⟨fun _ => ⟨rfl, rfl⟩, fun _ => rfl, fun _ => rfl, fun _ => rfl, fun _ => rfl, fun _ => rfl, fun _ => rfl, fun _ => ⟨rfl, rfl, rfl⟩, fun _ => ⟨rfl, rfl⟩, fun _ => ⟨rfl, rfl⟩, fun _ => ⟨rfl, rfl⟩, fun _ => ⟨rfl, rfl⟩, fun _ => rfl, e15, fun _ => rfl, fun h => Bool.noConfusion h, fun h => Bool.noConfusion h, fun h => Bool.noConfusion h, e20, e21, e22, e23, e24, fun h => Bool.noConfusion h, fun h => Bool.noConfusion h⟩, rfl, rfl, hR⟩
          · -- 17
            simp only [List.getElem?_toArray, List.getElem?_cons_succ, List.getElem?_cons_zero, Option.some.injEq] at ho
            subst ho
            have hbi : b17 = false := by simpa using hun
            subst hbi
            have hd14 : b14 = true := by have := hdep ⟨14, .guard⟩ (by simp) rfl; simpa using this
            have hd15 : b15 = true := by have := hdep ⟨15, .data⟩ (by simp) rfl; simpa using this
            have hd16 : b16 = true := by have := hdep ⟨16, .data⟩ (by simp) rfl; simpa using this
            have hd13 : b13 = true := (e14 hd14)
            have hd12 : b12 = true := (e13 hd13).2
            have hd11 : b11 = true := (e12 hd12).1
            have hd10 : b10 = true := (e11 hd11).1
            have hd9 : b9 = true := (e10 hd10).1
            have hd8 : b8 = true := (e9 hd9).2.1
            have hd7 : b7 = true := (e9 hd9).1
            have hd6 : b6 = true := (e7 hd7)
            have hd5 : b5 = true := (e6 hd6)
            have hd4 : b4 = true := (e5 hd5)
            have hd3 : b3 = true := (e4 hd4)
            have hd2 : b2 = true := (e3 hd3)
            have hd1 : b1 = true := (e2 hd2).2
            have hd0 : b0 = true := (e2 hd2).1
            subst hd0 hd1 hd2 hd3 hd4 hd5 hd6 hd7 hd8 hd9 hd10 hd11 hd12 hd13 hd14 hd15 hd16
            obtain rfl : b18 = false := Bool.eq_false_iff.2 (fun h => Bool.noConfusion (e18 h).1)
            obtain rfl : b19 = false := Bool.eq_false_iff.2 (fun h => Bool.noConfusion (e19 h).1)
            obtain rfl : b25 = false := Bool.eq_false_iff.2 (fun h => Bool.noConfusion (e25 h).1)
            obtain rfl : b26 = false := Bool.eq_false_iff.2 (fun h => Bool.noConfusion (e26 h).2)
            refine wpOpIn_step rfl (fun K hK => ?_)
            clear hun hdep hi
            go_simp
            refine hK _ _ ⟨true, true, true, true, true, true, true, true, true, true, true, true, true, true, true, true, true, true, false, false, b20, b21, b22, b23, b24, false, false, ⟨fun _ => ⟨rfl, rfl⟩, fun _ => rfl, fun _ => rfl, fun _ => rfl, fun _ => rfl, fun _ => rfl, fun _ => rfl, fun _ => ⟨rfl, rfl, rfl⟩, fun _ => ⟨rfl, rfl⟩, fun _ => ⟨rfl, rfl⟩, fun _ => ⟨rfl, rfl⟩, fun _ => ⟨rfl, rfl⟩, fun _ => rfl, fun _ => rfl, fun _ => rfl, fun _ => ⟨rfl, rfl, rfl⟩, fun h => Bool.noConfusion h, fun h => Bool.noConfusion h, e20, e21, e22, e23, e24, fun h => Bool.noConfusion h, fun h => Bool.noConfusion h⟩, rfl, rfl, hR⟩
          · -- 18
            simp only [List.getElem?_toArray, List.getElem?_cons_succ, List.getElem?_cons_zero, Option.some.injEq] at ho
            subst ho
            have hbi : b18 = false := by simpa using hun
            subst hbi
            have hd14 : b14 = true := by have := hdep ⟨14, .guard⟩ (by simp) rfl; simpa using this
            have hd17 : b17 = true := by have := hdep ⟨17, .data⟩ (by simp) rfl; simpa using this
            have hd16 : b16 = true := (e17 hd17).2.1
            have hd15 : b15 = true := (e17 hd17).1
            have hd13 : b13 = true := (e14 hd14)
            have hd12 : b12 = true := (e13 hd13).2
            have hd11 : b11 = true := (e12 hd12).1
            have hd10 : b10 = true := (e11 hd11).1
            have hd9 : b9 = true := (e10 hd10).1
            have hd8 : b8 = true := (e9 hd9).2.1
            have hd7 : b7 = true := (e9 hd9).1
            have hd6 : b6 = true := (e7 hd7)
            have hd5 : b5 = true := (e6 hd6)
            have hd4 : b4 = true := (e5 hd5)
            have hd3 : b3 = true := (e4 hd4)
            have hd2 : b2 = true := (e3 hd3)
            have hd1 : b1 = true := (e2 hd2).2
            have hd0 : b0 = true := (e2 hd2).1
            subst hd0 hd1 hd2 hd3 hd4 hd5 hd6 hd7 hd8 hd9 hd10 hd11 hd12 hd13 hd14 hd15 hd16 hd17
            obtain rfl : b19 = false := Bool.eq_false_iff.2 (fun h => Bool.noConfusion (e19 h).1)
            obtain rfl : b25 = false := Bool.eq_false_iff.2 (fun h => Bool.noConfusion (e25 h).1)
            obtain rfl : b26 = false := Bool.eq_false_iff.2 (fun h => Bool.noConfusion (e26 h).2)
            refine wpOpIn_step rfl (fun K hK => ?_)
            clear hun hdep hi
            go_simp
            refine hK _ _ ⟨true, true, true, true, true, true, true, true, true, true, true, true, true, true, true, true, true, true, true, false, b20, b21, b22, b23, b24, false, false, ⟨fun _ => ⟨rfl, rfl⟩, fun _ => rfl, fun _ => rfl, fun _ => rfl, fun _ => rfl, fun _ => rfl, fun _ => rfl, fun _ => ⟨rfl, rfl, rfl⟩, fun _ => ⟨rfl, rfl⟩, fun _ => ⟨rfl, rfl⟩, fun _ => ⟨rfl, rfl⟩, fun _ => ⟨rfl, rfl⟩, fun _ => rfl, fun _ => rfl, fun _ => rfl, fun _ => ⟨rfl, rfl, rfl⟩, fun _ => ⟨rfl, rfl⟩, fun h => Bool.noConfusion h, e20, e21, e22, e23, e24, fun h => Bool.noConfusion h, fun h => Bool.noConfusion h⟩, rfl, rfl, hR⟩
          · -- 19
            simp only [List.getElem?_toArray, List.getElem?_cons_succ, List.getElem?_cons_zero, Option.some.injEq] at ho
            subst ho
            have hbi : b19 = false := by simpa using hun
            subst hbi
            have hd14 : b14 = true := by have := hdep ⟨14, .guard⟩ (by simp) rfl; simpa using this
            have hd18 : b18 = true := by have := hdep ⟨18, .data⟩ (by simp) rfl; simpa using this
            have hd17 : b17 = true := (e18 hd18).1
            have hd16 : b16 = true := (e17 hd17).2.1
            have hd15 : b15 = true := (e17 hd17).1
            have hd13 : b13 = true := (e14 hd14)
            have hd12 : b12 = true := (e13 hd13).2
            have hd11 : b11 = true := (e12 hd12).1
            have hd10 : b10 = true := (e11 hd11).1
            have hd9 : b9 = true := (e10 hd10).1
            have hd8 : b8 = true := (e9 hd9).2.1
            have hd7 : b7 = true := (e9 hd9).1
            have hd6 : b6 = true := (e7 hd7)
            have hd5 : b5 = true := (e6 hd6)
            have hd4 : b4 = true := (e5 hd5)
            have hd3 : b3 = true := (e4 hd4)
            have hd2 : b2 = true := (e3 hd3)
            have hd1 : b1 = true := (e2 hd2).2
            have hd0 : b0 = true := (e2 hd2).1
            subst hd0 hd1 hd2 hd3 hd4 hd5 hd6 hd7 hd8 hd9 hd10 hd11 hd12 hd13 hd14 hd15 hd16 hd17 hd18
            obtain rfl : b25 = false := Bool.eq_false_iff.2 (fun h => Bool.noConfusion (e25 h).1)
            obtain rfl : b26 = false := Bool.eq_false_iff.2 (fun h => Bool.noConfusion (e26 h).2)
            refine wpOpIn_step rfl (fun K hK => ?_)
            clear hun hdep hi
            go_simp
            refine hK _ _ ⟨true, true, true, true, true, true, true, true, true, true, true, true, true, true, true, true, true, true, true, true, b20, b21, b22, b23, b24, false, false, ⟨fun _ => ⟨rfl, rfl⟩, fun _ => rfl, fun _ => rfl, fun _ => rfl, fun _ => rfl, fun _ => rfl, fun _ => rfl, fun _ => ⟨rfl, rfl, rfl⟩, fun _ => ⟨rfl, rfl⟩, fun _ => ⟨rfl, rfl⟩, fun _ => ⟨rfl, rfl⟩, fun _ => ⟨rfl, rfl⟩, fun _ => rfl, fun _ => rfl, fun _ => rfl, fun _ => ⟨rfl, rfl, rfl⟩, fun _ => ⟨rfl, rfl⟩, fun _ => ⟨rfl, rfl⟩, e20, e21, e22, e23, e24, fun h => Bool.noConfusion h, fun h => Bool.noConfusion h⟩, rfl, rfl, hR⟩
          · -- 20
            simp only [List.getElem?_toArray, List.getElem?_cons_succ, List.getElem?_cons_zero, Option.some.injEq] at ho
            subst ho
            have hbi : b20 = false := by simpa using hun
            subst hbi
            have hd14 : b14 = true := by have := hdep ⟨14, .guard⟩ (by simp) rfl; simpa using this
            have hd13 : b13 = true := (e14 hd14)
            have hd12 : b12 = true := (e13 hd13).2
            have hd11 : b11 = true := (e12 hd12).1
            have hd10 : b10 = true := (e11 hd11).1
            have hd9 : b9 = true := (e10 hd10).1
            have hd8 : b8 = true := (e9 hd9).2.1
            have hd7 : b7 = true := (e9 hd9).1
            have hd6 : b6 = true := (e7 hd7)
            have hd5 : b5 = true := (e6 hd6)
            have hd4 : b4 = true := (e5 hd5)
            have hd3 : b3 = true := (e4 hd4)
            have hd2 : b2 = true := (e3 hd3)
            have hd1 : b1 = true := (e2 hd2).2
            have hd0 : b0 = true := (e2 hd2).1
            subst hd0 hd1 hd2 hd3 hd4 hd5 hd6 hd7 hd8 hd9 hd10 hd11 hd12 hd13 hd14
            obtain rfl : b22 = false := Bool.eq_false_iff.2 (fun h => Bool.noConfusion (e22 h).1)
            obtain rfl : b23 = false := Bool.eq_false_iff.2 (fun h => Bool.noConfusion (e23 h).1)
            obtain rfl : b24 = false := Bool.eq_false_iff.2 (fun h => Bool.noConfusion (e24 h).1)
            obtain rfl : b25 = false := Bool.eq_false_iff.2 (fun h => Bool.noConfusion (e25 h).2.1)
            obtain rfl : b26 = false := Bool.eq_false_iff.2 (fun h => Bool.noConfusion (e26 h).2)
            refine wpOpIn_step rfl (fun K hK => ?_)
            clear hun hdep hi
            go_simp
            refine hK _ _ ⟨true, true, true, true, true, true, true, true, true, true, true, true, true, true, true, b15, b16, b17, b18, b19, true, b21, false, false, false, false, false, ⟨fun _ => ⟨rfl, rfl⟩, fun _ => rfl, fun _ => rfl, fun _ => rfl, fun _ => rfl, fun _ => rfl, fun _ => rfl, fun _ => ⟨rfl, rfl, rfl⟩, fun _ => ⟨rfl, rfl⟩, fun _ => ⟨rfl, rfl⟩, fun _ => ⟨rfl, rfl⟩, fun _ => ⟨rfl, rfl⟩, fun _ => rfl, e15, e16, e17, e18, e19, fun _ => rfl, e21, fun h => Bool.noConfusion h, fun h => Bool.noConfusion h, fun h => Bool.noConfusion h, fun h => Bool.noConfusion h, fun h => Bool.noConfusion h⟩, rfl, rfl, hR⟩
          · -- 21
            simp only [List.getElem?_toArray, List.getElem?_cons_succ, List.getElem?_cons_zero, Option.some.injEq] at ho
            subst ho
            have hbi : b21 = false := by simpa using hun
            subst hbi
            have hd14 : b14 = true := by have := hdep ⟨14, .guard⟩ (by simp) rfl; simpa using this
            have hd13 : b13 = true := (e14 hd14)
            have hd12 : b12 = true := (e13 hd13).2
            have hd11 : b11 = true := (e12 hd12).1
            have hd10 : b10 = true := (e11 hd11).1
            have hd9 : b9 = true := (e10 hd10).1
            have hd8 : b8 = true := (e9 hd9).2.1
            have hd7 : b7 = true := (e9 hd9).1
            have hd6 : b6 = true := (e7 hd7)
            have hd5 : b5 = true := (e6 hd6)
            have hd4 : b4 = true := (e5 hd5)
            have hd3 : b3 = true := (e4 hd4)
            have hd2 : b2 = true := (e3 hd3)
            have hd1 : b1 = true := (e2 hd2).2
            have hd0 : b0 = true := (e2 hd2).1
            subst hd0 hd1 hd2 hd3 hd4 hd5 hd6 hd7 hd8 hd9 hd10 hd11 hd12 hd13 hd14
            obtain rfl : b22 = false := Bool.eq_false_iff.2 (fun h => Bool.noConfusion (e22 h).2.1)
            obtain rfl : b23 = false := Bool.eq_false_iff.2 (fun h => Bool.noConfusion (e23 h).1)
            obtain rfl : b24 = false := Bool.eq_false_iff.2 (fun h => Bool.noConfusion (e24 h).1)
            obtain rfl : b25 = false := Bool.eq_false_iff.2 (fun h => Bool.noConfusion (e25 h).2.1)
            obtain rfl : b26 = false := Bool.eq_false_iff.2 (fun h => Bool.noConfusion (e26 h).2)
            refine wpOpIn_step rfl (fun K hK => ?_)
            clear hun hdep hi
            go_simp
            refine hK _ _ ⟨true, true, true, true, true, true, true, true, true, true, true, true, true, true, true, b15, b16, b17, b18, b19, b20, true, false, false, false, false, false, ⟨fun _ => ⟨rfl, rfl⟩, fun _ => rfl, fun _ => rfl, fun _ => rfl, fun _ => rfl, fun _ => rfl, fun _ => rfl, fun _ => ⟨rfl, rfl, rfl⟩, fun _ => ⟨rfl, rfl⟩, fun _ => ⟨rfl, rfl⟩, fun _ => ⟨rfl, rfl⟩, fun _ => ⟨rfl, rfl⟩, fun _ => rfl, e15, e16, e17, e18, e19, e20, fun _ => rfl, fun h => Bool.noConfusion h, fun h => Bool.noConfusion h, fun h => Bool.noConfusion h, fun h => Bool.noConfusion h, fun h => Bool.noConfusion h⟩, rfl, rfl, hR⟩
          · -- 22
            simp only [List.getElem?_toArray, List.getElem?_cons_succ, List.getElem?_cons_zero, Option.some.injEq] at ho
            subst ho
            have hbi : b22 = false := by simpa using hun
            subst hbi
            have hd14 : b14 = true := by have := hdep ⟨14, .guard⟩ (by simp) rfl; simpa using this
            have hd20 : b20 = true := by have := hdep ⟨20, .data⟩ (by simp) rfl; simpa using this
            have hd21 : b21 = true := by have := hdep ⟨21, .data⟩ (by simp) rfl; simpa using this
            have hd13 : b13 = true := (e14 hd14)
            have hd12 : b12 = true := (e13 hd13).2
            have hd11 : b11 = true := (e12 hd12).1
            have hd10 : b10 = true := (e11 hd11).1
            have hd9 : b9 = true := (e10 hd10).1
            have hd8 : b8 = true := (e9 hd9).2.1
            have hd7 : b7 = true := (e9 hd9).1
            have hd6 : b6 = true := (e7 hd7)
            have hd5 : b5 = true := (e6 hd6)
            have hd4 : b4 = true := (e5 hd5)
            have hd3 : b3 = true := (e4 hd4)
            have hd2 : b2 = true := (e3 hd3)
            have hd1 : b1 = true := (e2 hd2).2
            have hd0 : b0 = true := (e2 hd2).1
            subst hd0 hd1 hd2 hd3 hd4 hd5 hd6 hd7 hd8 hd9 hd10 hd11 hd12 hd13 hd14 hd20 hd21
            obtain rfl : b23 = false := Bool.eq_false_iff.2 (fun h => Bool.noConfusion (e23 h).1)
            obtain rfl : b24 = false := Bool.eq_false_iff.2 (fun h => Bool.noConfusion (e24 h).1)
            obtain rfl : b25 = false := Bool.eq_false_iff.2 (fun h => Bool.noConfusion (e25 h).2.1)
            obtain rfl : b26 = false := Bool.eq_false_iff.2 (fun h => Bool.noConfusion (e26 h).2)
            refine wpOpIn_step rfl (fun K hK => ?_)
            clear hun hdep hi
            go_simp
            refine hK _ _ ⟨true, true, true, true, true, true, true, true, true, true, true, true, true, true, true, b15, b16, b17, b18, b19, true, true, true, false, false, false, false, ⟨fun _ => ⟨rfl, rfl⟩, fun _ => rfl, fun _ => rfl, fun _ => rfl, fun _ => rfl, fun _ => rfl, fun _ => rfl, fun _ => ⟨rfl, rfl, rfl⟩, fun _ => ⟨rfl, rfl⟩, fun _ => ⟨rfl, rfl⟩, fun _ => ⟨rfl, rfl⟩, fun _ => ⟨rfl, rfl⟩, fun _ => rfl, e15, e16, e17, e18, e19, fun _ => rfl, fun _ => rfl, fun _ => ⟨rfl, rfl, rfl⟩, fun h => Bool.noConfusion h, fun h => Bool.noConfusion h, fun h => Bool.noConfusion h, fun h => Bool.noConfusion h⟩, rfl, rfl, hR⟩
          · -- 23
            simp only [List.getElem?_toArray, List.getElem?_cons_succ, List.getElem?_cons_zero, Option.some.injEq] at ho
            subst ho
            have hbi : b23 = false := by simpa using hun
            subst hbi
            have hd14 : b14 = true := by have := hdep ⟨14, .guard⟩ (by simp) rfl; simpa using this
            have hd22 : b22 = true := by have := hdep ⟨22, .data⟩ (by simp) rfl; simpa using this
            have hd21 : b21 = true := (e22 hd22).2.1
            have hd20 : b20 = true := (e22 hd22).1
            have hd13 : b13 = true := (e14 hd14)
            have hd12 : b12 = true := (e13 hd13).2
            have hd11 : b11 = true := (e12 hd12).1
            have hd10 : b10 = true := (e11 hd11).1
            have hd9 : b9 = true := (e10 hd10).1
            have hd8 : b8 = true := (e9 hd9).2.1
            have hd7 : b7 = true := (e9 hd9).1
            have hd6 : b6 = true := (e7 hd7)
            have hd5 : b5 = true := (e6 hd6)
            have hd4 : b4 = true := (e5 hd5)
            have hd3 : b3 = true := (e4 hd4)
            have hd2 : b2 = true := (e3 hd3)
            have hd1 : b1 = true := (e2 hd2).2
            have hd0 : b0 = true := (e2 hd2).1
            subst hd0 hd1 hd2 hd3 hd4 hd5 hd6 hd7 hd8 hd9 hd10 hd11 hd12 hd13 hd14 hd20 hd21 hd22
            obtain rfl : b24 = false := Bool.eq_false_iff.2 (fun h => Bool.noConfusion (e24 h).1)
            obtain rfl : b25 = false := Bool.eq_false_iff.2 (fun h => Bool.noConfusion (e25 h).2.1)
            obtain rfl : b26 = false := Bool.eq_false_iff.2 (fun h => Bool.noConfusion (e26 h).2)
            refine wpOpIn_step rfl (fun K hK => ?_)
            clear hun hdep hi
            go_simp
            refine hK _ _ ⟨true, true, true, true, true, true, true, true, true, true, true, true, true, true, true, b15, b16, b17, b18, b19, true, true, true, true, false, false, false, ⟨fun _ => ⟨rfl, rfl⟩, fun _ => rfl, fun _ => rfl, fun _ => rfl, fun _ => rfl, fun _ => rfl, fun _ => rfl, fun _ => ⟨rfl, rfl, rfl⟩, fun _ => ⟨rfl, rfl⟩, fun _ => ⟨rfl, rfl⟩, fun _ => ⟨rfl, rfl⟩, fun _ => ⟨rfl, rfl⟩, fun _ => rfl, e15, e16, e17, e18, e19, fun _ => rfl, fun _ => rfl, fun _ => ⟨rfl, rfl, rfl⟩, fun _ => ⟨rfl, rfl⟩, fun h => Bool.noConfusion h, fun h => Bool.noConfusion h, fun h => Bool.noConfusion h⟩, rfl, rfl, hR⟩
          · -- 24
            simp only [List.getElem?_toArray, List.getElem?_cons_succ, List.getElem?_cons_zero, Option.some.injEq] at ho
            subst ho
            have hbi : b24 = false := by simpa using hun
            subst hbi
            have hd14 : b14 = true := by have := hdep ⟨14, .guard⟩ (by simp) rfl; simpa using this
            have hd23 : b23 = true := by have := hdep ⟨23, .data⟩ (by simp) rfl; simpa using this
            have hd22 : b22 = true := (e23 hd23).1
            have hd21 : b21 = true := (e22 hd22).2.1
            have hd20 : b20 = true := (e22 hd22).1
            have hd13 : b13 = true := (e14 hd14)
            have hd12 : b12 = true := (e13 hd13).2
            have hd11 : b11 = true := (e12 hd12).1
            have hd10 : b10 = true := (e11 hd11).1
            have hd9 : b9 = true := (e10 hd10).1
            have hd8 : b8 = true := (e9 hd9).2.1
            have hd7 : b7 = true := (e9 hd9).1
            have hd6 : b6 = true := (e7 hd7)
            have hd5 : b5 = true := (e6 hd6)
            have hd4 : b4 = true := (e5 hd5)
            have hd3 : b3 = true := (e4 hd4)
            have hd2 : b2 = true := (e3 hd3)
            have hd1 : b1 = true := (e2 hd2).2
            have hd0 : b0 = true := (e2 hd2).1
            subst hd0 hd1 hd2 hd3 hd4 hd5 hd6 hd7 hd8 hd9 hd10 hd11 hd12 hd13 hd14 hd20 hd21 hd22 hd23
            obtain rfl : b25 = false := Bool.eq_false_iff.2 (fun h => Bool.noConfusion (e25 h).2.1)
            obtain rfl : b26 = false := Bool.eq_false_iff.2 (fun h => Bool.noConfusion (e26 h).2)
            refine wpOpIn_step rfl (fun K hK => ?_)
            clear hun hdep hi
            go_simp
            refine hK _ _ ⟨true, true, true, true, true, true, true, true, true, true, true, true, true, true, true, b15, b16, b17, b18, b19, true, true, true, true, true, false, false, ⟨fun _ => ⟨rfl, rfl⟩, fun _ => rfl, fun _ => rfl, fun _ => rfl, fun _ => rfl, fun _ => rfl, fun _ => rfl, fun _ => ⟨rfl, rfl, rfl⟩, fun _ => ⟨rfl, rfl⟩, fun _ => ⟨rfl, rfl⟩, fun _ => ⟨rfl, rfl⟩, fun _ => ⟨rfl, rfl⟩, fun _ => rfl, e15, e16, e17, e18, e19, fun _ => rfl, fun _ => rfl, fun _ => ⟨rfl, rfl, rfl⟩, fun _ => ⟨rfl, rfl⟩, fun _ => ⟨rfl, rfl⟩, fun h => Bool.noConfusion h, fun h => Bool.noConfusion h⟩, rfl, rfl, hR⟩
          · -- 25
            simp only [List.getElem?_toArray, List.getElem?_cons_succ, List.getElem?_cons_zero, Option.some.injEq] at ho
            subst ho
            have hbi : b25 = false := by simpa using hun
            subst hbi
            have hd14 : b14 = true := by have := hdep ⟨14, .guard⟩ (by simp) rfl; simpa using this
            have hd19 : b19 = true := by have := hdep ⟨19, .data⟩ (by simp) rfl; simpa using this
            have hd24 : b24 = true := by have := hdep ⟨24, .data⟩ (by simp) rfl; simpa using this
            have hd23 : b23 = true := (e24 hd24).1
            have hd22 : b22 = true := (e23 hd23).1
            have hd21 : b21 = true := (e22 hd22).2.1
            have hd20 : b20 = true := (e22 hd22).1
            have hd18 : b18 = true := (e19 hd19).1
            have hd17 : b17 = true := (e18 hd18).1
            have hd16 : b16 = true := (e17 hd17).2.1
            have hd15 : b15 = true := (e17 hd17).1
            have hd13 : b13 = true := (e14 hd14)
            have hd12 : b12 = true := (e13 hd13).2
            have hd11 : b11 = true := (e12 hd12).1
            have hd10 : b10 = true := (e11 hd11).1
            have hd9 : b9 = true := (e10 hd10).1
            have hd8 : b8 = true := (e9 hd9).2.1
            have hd7 : b7 = true := (e9 hd9).1
            have hd6 : b6 = true := (e7 hd7)
            have hd5 : b5 = true := (e6 hd6)
            have hd4 : b4 = true := (e5 hd5)
            have hd3 : b3 = true := (e4 hd4)
            have hd2 : b2 = true := (e3 hd3)
            have hd1 : b1 = true := (e2 hd2).2
            have hd0 : b0 = true := (e2 hd2).1
            subst hd0 hd1 hd2 hd3 hd4 hd5 hd6 hd7 hd8 hd9 hd10 hd11 hd12 hd13 hd14 hd15 hd16 hd17 hd18 hd19 hd20 hd21 hd22 hd23 hd24
            obtain rfl : b26 = false := Bool.eq_false_iff.2 (fun h => Bool.noConfusion (e26 h).2)
            refine wpOpIn_step rfl (fun K hK => ?_)
            clear hun hdep hi
            go_simp
            refine hK _ _ ⟨true, true, true, true, true, true, true, true, true, true, true, true, true, true, true, true, true, true, true, true, true, true, true, true, true, true, false, ⟨fun _ => ⟨rfl, rfl⟩, fun _ => rfl, fun _ => rfl, fun _ => rfl, fun _ => rfl, fun _ => rfl, fun _ => rfl, fun _ => ⟨rfl, rfl, rfl⟩, fun _ => ⟨rfl, rfl⟩, fun _ => ⟨rfl, rfl⟩, fun _ => ⟨rfl, rfl⟩, fun _ => ⟨rfl, rfl⟩, fun _ => rfl, fun _ => rfl, fun _ => rfl, fun _ => ⟨rfl, rfl, rfl⟩, fun _ => ⟨rfl, rfl⟩, fun _ => ⟨rfl, rfl⟩, fun _ => rfl, fun _ => rfl, fun _ => ⟨rfl, rfl, rfl⟩, fun _ => ⟨rfl, rfl⟩, fun _ => ⟨rfl, rfl⟩, fun _ => ⟨rfl, rfl, rfl⟩, fun h => Bool.noConfusion h⟩, rfl, rfl, hR⟩
          · -- 26
            simp only [List.getElem?_toArray, List.getElem?_cons_succ, List.getElem?_cons_zero, Option.some.injEq] at ho
            subst ho
            have hbi : b26 = false := by simpa using hun
            subst hbi
            have hd14 : b14 = true := by have := hdep ⟨14, .data⟩ (by simp) rfl; simpa using this
            have hd25 : b25 = true := by have := hdep ⟨25, .data⟩ (by simp) rfl; simpa using this
            have hd24 : b24 = true := (e25 hd25).2.1
            have hd23 : b23 = true := (e24 hd24).1
            have hd22 : b22 = true := (e23 hd23).1
            have hd21 : b21 = true := (e22 hd22).2.1
            have hd20 : b20 = true := (e22 hd22).1
            have hd19 : b19 = true := (e25 hd25).1
            have hd18 : b18 = true := (e19 hd19).1
            have hd17 : b17 = true := (e18 hd18).1
            have hd16 : b16 = true := (e17 hd17).2.1
            have hd15 : b15 = true := (e17 hd17).1
            have hd13 : b13 = true := (e14 hd14)
            have hd12 : b12 = true := (e13 hd13).2
            have hd11 : b11 = true := (e12 hd12).1
            have hd10 : b10 = true := (e11 hd11).1
            have hd9 : b9 = true := (e10 hd10).1
            have hd8 : b8 = true := (e9 hd9).2.1
            have hd7 : b7 = true := (e9 hd9).1
            have hd6 : b6 = true := (e7 hd7)
            have hd5 : b5 = true := (e6 hd6)
            have hd4 : b4 = true := (e5 hd5)
            have hd3 : b3 = true := (e4 hd4)
            have hd2 : b2 = true := (e3 hd3)
            have hd1 : b1 = true := (e2 hd2).2
            have hd0 : b0 = true := (e2 hd2).1
            subst hd0 hd1 hd2 hd3 hd4 hd5 hd6 hd7 hd8 hd9 hd10 hd11 hd12 hd13 hd14 hd15 hd16 hd17 hd18 hd19 hd20 hd21 hd22 hd23 hd24 hd25
            refine wpOpIn_step rfl (fun K hK => ?_)
            clear hun hdep hi
            go_simp
            refine hK _ _ ⟨true, true, true, true, true, true, true, true, true, true, true, true, true, true, true, true, true, true, true, true, true, true, true, true, true, true, true, ⟨fun _ => ⟨rfl, rfl⟩, fun _ => rfl, fun _ => rfl, fun _ => rfl, fun _ => rfl, fun _ => rfl, fun _ => rfl, fun _ => ⟨rfl, rfl, rfl⟩, fun _ => ⟨rfl, rfl⟩, fun _ => ⟨rfl, rfl⟩, fun _ => ⟨rfl, rfl⟩, fun _ => ⟨rfl, rfl⟩, fun _ => rfl, fun _ => rfl, fun _ => rfl, fun _ => ⟨rfl, rfl, rfl⟩, fun _ => ⟨rfl, rfl⟩, fun _ => ⟨rfl, rfl⟩, fun _ => rfl, fun _ => rfl, fun _ => ⟨rfl, rfl, rfl⟩, fun _ => ⟨rfl, rfl⟩, fun _ => ⟨rfl, rfl⟩, fun _ => ⟨rfl, rfl, rfl⟩, fun _ => ⟨rfl, rfl⟩⟩, rfl, rfl, hR⟩
      have hd1 : decide (x < 0) = false := decide_eq_false hx0
      have HX := Lib.hid (hnx.out ⟨hf, by omega⟩)
      by_cases hzx : z < x
      · have HO := Lib.hid (hbig.out hzx)
        clear hf hbad hnx hbig
        go_wp2_with fail
        go_region_held3 (fun w' => Below wr.heap.size wr w') ((repeat' (first | (with_reducible exact Below.refl _ _) | (with_reducible assumption) | (with_reducible refine Below.alloc ?_ ?_ _) | (with_reducible refine Below.drew ?_) | (with_reducible refine below_drewN ?_ _) | (with_reducible refine Below.setCell ?_ ?_ _) | (with_reducible refine Below.trans ?_ (Below.mono (by with_reducible assumption) ?_)) | (with_reducible exact Below.size (by with_reducible assumption)) | go_size)))
          ((go_at_call 120; refine (FW.specIsFrac_is _ _ _ _ HF.out).mono ?_; rintro e w9 ⟨rfl, hb9⟩; have hS9 : Below wr.heap.size wr w9 := (by (repeat' (first | (with_reducible exact Below.refl _ _) | (with_reducible assumption) | (with_reducible refine Below.alloc ?_ ?_ _) | (with_reducible refine Below.drew ?_) | (with_reducible refine below_drewN ?_ _) | (with_reducible refine Below.setCell ?_ ?_ _) | (with_reducible refine Below.trans ?_ (Below.mono (by with_reducible assumption) ?_)) | (with_reducible exact Below.size (by with_reducible assumption)) | go_size)))))
        have HB9 := Lib.hid (HB.out.trans (hS9.mono hzr))
        clear hc1 hc2
        go_wp2_with fail
        go_ret3
        exact .inl ⟨HO.out, rfl, HB9.out⟩
      clear hf hbad hnx hbig
      go_wp2_with fail
      go_region_held3 (fun w' => Below wr.heap.size wr w') ((repeat' (first | (with_reducible exact Below.refl _ _) | (with_reducible assumption) | (with_reducible refine Below.alloc ?_ ?_ _) | (with_reducible refine Below.drew ?_) | (with_reducible refine below_drewN ?_ _) | (with_reducible refine Below.setCell ?_ ?_ _) | (with_reducible refine Below.trans ?_ (Below.mono (by with_reducible assumption) ?_)) | (with_reducible exact Below.size (by with_reducible assumption)) | go_size)))
        ((go_at_call 120; refine (FW.specIsFrac_is _ _ _ _ HF.out).mono ?_; rintro e w9 ⟨rfl, hb9⟩; have hS9 : Below wr.heap.size wr w9 := (by (repeat' (first | (with_reducible exact Below.refl _ _) | (with_reducible assumption) | (with_reducible refine Below.alloc ?_ ?_ _) | (with_reducible refine Below.drew ?_) | (with_reducible refine below_drewN ?_ _) | (with_reducible refine Below.setCell ?_ ?_ _) | (with_reducible refine Below.trans ?_ (Below.mono (by with_reducible assumption) ?_)) | (with_reducible exact Below.size (by with_reducible assumption)) | go_size)))))
      have HB9 := Lib.hid (HB.out.trans (hS9.mono hzr))
      clear hc1 hc2
      go_wp2_with fail
      go_roundw
      case rel => exact ⟨k + 1, by omega, by go_num, HX, HB9.out⟩
      case measure => simp [intOf]; omega
    · obtain rfl : k = xs.length := by omega
      have hok := HOKI.out.2 hgood.out
      have hmo := HGOOD.out hok
      have hfr := HFR.out (fun i hi => (hgood.out i hi).1)
      have HCS := Lib.hid (fun d h => comOut_some (d := d) hfr h)
      have HCN := Lib.hid (l01Common_any _ xs wr (HV.out.below hB) hfr hn0 hnb)
      have HMO := Lib.hid hmo
      have HB := Lib.hid hB
      clear hok hmo hfr hgood hB
      go_wp2_with fail
      refine HCN.out.mono ?_
      intro e w2 hco
      unfold ComS at hco
      cases hc : comOut xs with
      | none =>
        rw [hc] at hco HMO
        obtain ⟨rfl, hb2⟩ := hco
        have HB2 := Lib.hid (HB.out.trans (hb2.mono hzr))
        clear hb2 hc
        go_wp2_with fail
        go_ret3
        exact .inl ⟨HMO.out, rfl, HB2.out⟩
      | some d =>
        rw [hc] at hco HMO
        have hmo := HMO.out
        simp only at hmo
        clear HMO
        have HMO := Lib.hid hmo
        clear hmo
        obtain ⟨g, cap, rfl, hf, hb2⟩ := hco
        obtain ⟨⟨d1, d2⟩, hnb2⟩ := HCS.out d hc
        have HB2 := Lib.hid (HB.out.trans (hb2.mono hzr))
        have HBD := Lib.hid (fun k (hk : k ≤ (xs.map (numI d)).length) => sumNk_bd (C := 1000000000000) (by decide) (fun i hi => by
          have hi' : i < xs.length := by simpa using hi
          have := hnb2 _ (getD_mem2 hi')
          rwa [show (xs.map (numI d)).getD i 0 = numI d (xs.getD i (0, 0)) by simp [hi']]) k hk)
        have HS := Lib.hid (sumNk_succ (xs.map (numI d)))
        have HLL := Lib.hid (show (xs.map (numI d)).length = xs.length by simp)
        have HFI := Lib.hid (hf.mono hzr)
        have hcell : ∀ i, i < xs.length → w2.cell? ⟨g, i, none⟩ = some (.int .i64 ((xs.map (numI d)).getD i 0)) := fun i hi => by
          have ho' : w2.ownsRow 0 2 1 (.slice (some ⟨g, 0, none⟩) xs.length cap) xs.length (((xs.map (numI d))).map (Value.int .i64)) := by
            have := hf.owns
            rwa [show (xs.map (numI d)).length = xs.length by simp] at this
          have := World.ownsRow.cellAt ho' i (by omega)
          rw [this]
          simp [hi]
        have HCL := Lib.hid hcell
        generalize xs.map (numI d) = L at *
        clear hb2 hc hnb2 hf hcell
        go_wp2_with fail
        go_loop [13, 14] (fun s i => ∃ (k : Nat) (S : Int), k ≤ xs.length ∧ i = .int .i64 k ∧ s = .int .i64 S ∧ Hid (S = sumNk L k)) (fun _ i => xs.length - (intOf i).toNat)
        case atStart => exact ⟨0, 0, Nat.zero_le _, rfl, rfl, rfl⟩
        case round =>
          obtain ⟨k, S, hk, rfl, rfl, hS⟩ := hrel
          by_cases hlt : k < xs.length
          · have c1 := HCL.out k hlt
            have h1 := HBD.out (k + 1) (by have := HLL.out; omega)
            have h2 := HS.out k (by have := HLL.out; omega)
            rw [← hS.out] at h2
            have hnx : Hid (S + L.getD k 0 = sumNk L (k + 1)) := h2.symm
            rw [h2] at h1
            obtain ⟨x, hx⟩ : ∃ x, x = L.getD k 0 := ⟨_, rfl⟩
            rw [← hx] at c1 h1 hnx
            obtain ⟨T, hT⟩ : ∃ T, T = S + x := ⟨_, rfl⟩
            rw [← hT] at h1 hnx
            have hw : wrap64 T = T := IntWalk.wrap64_in _ (by omega)
            have hT' := hT.symm
            clear h1 h2 hx hT hS
            go_wp2_with fail
            go_round
            case rel => exact ⟨k + 1, T, by omega, by go_num, (by first | rfl | rw [hw]), hnx⟩
            case measure => simp [intOf]; omega
          · obtain rfl : k = xs.length := by omega
            rw [← hS.out] at HMO
            clear hS
            by_cases hsd : S = d
            · rw [if_pos hsd] at HMO
              have hsdb : (S != d) = false := by simpa using hsd
              have HSD := Lib.hid hsd
              clear hsd
              by_cases hmost : most < d
              · go_wp2_with fail
                go_ret3
                exact .inr ⟨_, _, HMO.out, .inl ⟨hmost, rfl⟩, HB2.out⟩
              · go_wp2_with fail
                go_ret3
                exact .inr ⟨_, _, HMO.out, .inr ⟨by omega, g, cap, rfl, HFI.out⟩, HB2.out⟩
            · rw [if_neg hsd] at HMO
              have hsdb : (S != d) = true := by simpa using hsd
              clear hsd
              go_wp2_with fail
              go_ret3
              exact .inl ⟨HMO.out, rfl, HB2.out⟩
end Go.Proofs.Ytimcokealhnfhaa.PW
