/-
  Do numbers meet all demands of a linked list? In the program.
-/
import Derived.Test.YtoglmkjmnknbbaaWDem
import Derived.Test.YtoglmkjmnknbbaaWSlo
import Derived.Test.YtoglmkjmnknbbaaPRoundB
namespace Go.Proofs.Ytoglmkjmnknbbaa.PW
open Go.RowKit Go.Proofs.Ytoglmkjmnknbbaa
open Go.Proofs.Ytoglmkjmnknbbaa.PM

theorem DemS.len {U : Nat → Value} {B : List Int} {W : World} : ∀ {ks ks' : List Nat} {v : Value}, DemS U B W ks v (.pointer none) → DemS U B W ks' v (.pointer none) → ks.length = ks'.length := by
  intro ks
  induction ks with
  | nil =>
    intro ks' v h h'
    cases ks' with
    | nil => rfl
    | cons k ks' =>
      obtain ⟨bl, y, hv, _⟩ := h'
      rw [show v = .pointer none from h] at hv
      cases hv
  | cons k ks ih =>
    rintro ks' v ⟨bl, y, rfl, hc, hd⟩ h'
    cases ks' with
    | nil => have := (show Value.pointer (some ⟨bl, 0, none⟩) = .pointer none from h'); cases this
    | cons k' ks' =>
      obtain ⟨bl', y', hv, hc', hd'⟩ := h'
      obtain rfl : bl = bl' := by simpa using hv
      rw [hc] at hc'
      have e : y = y' := by simp at hc'; exact hc'.2.2
      rw [e] at hd
      simp [ih hd hd']
theorem DemS.lt {U : Nat → Value} {B : List Int} {W : World} {k : Nat} {ks : List Nat} {v nx : Value} (h : DemS U B W (k :: ks) v nx) : ∃ bl y, v = .pointer (some ⟨bl, 0, none⟩) ∧ bl < W.heap.size ∧ W.cell? ⟨bl, 0, none⟩ = some (U k) ∧ W.cell? ⟨bl, 1, none⟩ = some (.int .i64 (B.getD k 0)) ∧ W.cell? ⟨bl, 2, none⟩ = some y ∧ DemS U B W ks y nx := by
  obtain ⟨bl, y, rfl, hc, hd⟩ := h
  exact ⟨bl, y, rfl, (Array.getElem?_eq_some_iff.1 hc).1, by simp [World.cell?, hc], by simp [World.cell?, hc], by simp [World.cell?, hc], hd⟩

/-- Is the demand of the row j met? -/
def metJ (A : List (List Int)) (B L : List Int) (d : Int) (n j : Nat) : Bool := decide (B.getD j 0 * d ≤ proTo (A.getD j []) L n)

set_option maxRecDepth 100000 in
set_option maxHeartbeats 4000000 in
theorem areMetBy_any (ad : Option Addr) (lv : Value) (A : List (List Int)) (B L : List Int) (d : Int) (n m : Nat) (U : Nat → Value) (ks : List Nat) (w : World) (hd : DemS U B w ks (.pointer ad) (.pointer none)) (hm : ∀ k ∈ ks, k < m)
    (hU : ∀ k, k < m → ∃ a c, U k = .slice a n c) (hUI : ∀ k, k < m → Ints w (U k) (A.getD k []) ∧ (A.getD k []).length = n) (hl : Ints w lv L) (hL : L.length = n) (hn1 : 1 ≤ n) (hn5 : n ≤ 5)
    (hb : ∀ k, k < m → ∀ i, i < n → -1000000000000000 ≤ (A.getD k []).getD i 0 * L.getD i 0 ∧ (A.getD k []).getD i 0 * L.getD i 0 ≤ 1000000000000000) (hB : ∀ k, k < m → -1000000000000000 ≤ B.getD k 0 * d ∧ B.getD k 0 * d ≤ 1000000000000000) :
    Calls Try.prog 116 #[.pointer ad, lv, .int .i64 d] w fun e w' => e = .returned (.bool (ks.all (metJ A B L d n))) ∧ Below w.heap.size w w' := by
  have hmx : Try.prog.follows .mixedOrders = true := by kernel_rfl
  obtain ⟨μ, hμ⟩ : ∃ μ : Value → World → Nat, ∀ ks v W, DemS U B W ks v (.pointer none) → μ v W = ks.length := by
    classical
    refine ⟨fun v W => if h : ∃ ks, DemS U B W ks v (.pointer none) then h.choose.length else 0, fun ks v W h => ?_⟩
    have hex : ∃ ks, DemS U B W ks v (.pointer none) := ⟨ks, h⟩
    show (if h : ∃ ks, DemS U B W ks v (.pointer none) then h.choose.length else 0) = _
    rw [dif_pos hex]
    exact DemS.len hex.choose_spec h
  have HP := Lib.hid (fun (k : Nat) (hk : k < m) (w' : World) (hb' : Below w.heap.size w w') => productOf_any (U k) lv (A.getD k []) L n w' ((hUI k hk).1.below hb') (hl.below hb') (hUI k hk).2 hL hn1 (by omega) (hb k hk))
  have HPB := Lib.hid (fun (k : Nat) (hk : k < m) => proTo_bd (hb k hk) n (Nat.le_refl _))
  have HMU := Lib.hid hμ
  have HU := Lib.hid hU
  have HB := Lib.hid hB
  have HM := Lib.hid hm
  have HD := Lib.hid hd
  obtain ⟨x5, y5, rfl, -⟩ := hl
  rw [hL] at HP ⊢
  clear hμ hU hUI hb hB hm hd hL
  go_enter Try.func116, Try.ntmps116
  go_wp2_with fail
  go_loopw [0] (fun p wr => ∃ ks' ad', p = .pointer ad' ∧ DemS U B wr ks' p (.pointer none) ∧ (∀ k ∈ ks', k < m) ∧ ks.all (metJ A B L d n) = ks'.all (metJ A B L d n) ∧ Below w.heap.size w wr) (fun p wr => μ p wr)
  case atStart => exact ⟨ks, ad, rfl, HD.out, HM.out, rfl, Below.refl _ _⟩
  case round =>
    obtain ⟨ks', ad', rfl, hd', hm', hall, hBw⟩ := hrel
    cases ks' with
    | nil =>
      obtain rfl : ad' = none := by have := (show Value.pointer ad' = .pointer none from hd'); simpa using this
      have HA := Lib.hid hall
      have HBW := Lib.hid hBw
      clear hd' hm' hall hBw
      go_wp2_with fail
      go_ret
      exact ⟨by rw [HA.out]; rfl, HBW.out⟩
    | cons k ks' =>
      obtain ⟨bl, y, hv, hbl, c0, c1, c2, hd2⟩ := hd'.lt
      obtain rfl : ad' = some ⟨bl, 0, none⟩ := by simpa using hv
      have hkm := hm' k (by simp)
      obtain ⟨ua, uc, hu⟩ := HU.out k hkm
      have hp := HP.out k hkm wr hBw
      have hpb := HPB.out k hkm
      have hBk := HB.out k hkm
      obtain ⟨bk, hbk⟩ : ∃ bk, bk = B.getD k 0 := ⟨_, rfl⟩
      obtain ⟨yad, hy⟩ := hd2.ptr ⟨_, rfl⟩
      rw [hu] at c0 hp
      rw [hy] at c2 hd2
      rw [← hbk] at c1 hBk
      have hmet : metJ A B L d n k = decide (bk * d ≤ proTo (A.getD k []) L n) := by rw [hbk]; rfl
      have HMET := Lib.hid hmet
      have HALL := Lib.hid hall
      have HBW := Lib.hid hBw
      have HPW := Lib.hid (fun (w' : World) (hb' : Below wr.heap.size wr w') => HP.out k hkm w' (hBw.trans (hb'.mono hBw.size)))
      rw [hu] at HPW
      have HD2 := Lib.hid hd2
      have HM2 := Lib.hid hm'
      have HMUK := Lib.hid (HMU.out _ _ _ hd')
      obtain ⟨S, hS⟩ : ∃ S, S = proTo (A.getD k []) L n := ⟨_, rfl⟩
      rw [← hS] at HPW HMET hpb
      obtain ⟨q, hq⟩ : ∃ q, q = bk * d := ⟨_, rfl⟩
      have HQ := Lib.hid (show bk * d = q from hq.symm)
      have HWQ := Lib.hid (show IntKind.i64.wrap (bk * d) = q by rw [IntWalk.i64_in _ (by omega)]; exact hq.symm)
      rw [← hq] at hBk
      clear hp hmet hall hBw hd2 hm' hd' hv hu hy hbk hS hkm hq
      go_wp2_with fail
      rename_i K0 hK0
      refine (wpIn_wide (n := 8)).1 ?_
      refine PR.wpIn_region_inv hmx (by kernel_rfl) (fun listed ac w' =>
          ∃ (b0 b1 b2 b3 b4 b5 b6 b7 b8 b9 b10 b11 b12 : Bool), ((b1 = true → b0 = true) ∧ (b2 = true → b1 = true) ∧ (b3 = true → b2 = true) ∧ (b5 = true → b3 = true ∧ b4 = true) ∧ (b7 = true → b6 = true) ∧ (b8 = true → b7 = true) ∧ (b9 = true → b8 = true) ∧ (b11 = true → b9 = true ∧ b10 = true) ∧ (b12 = true → b5 = true ∧ b11 = true)) ∧ listed = #[b0, b1, b2, b3, b4, b5, b6, b7, b8, b9, b10, b11, b12] ∧
            ac = { tmps := #[.pointer (some ⟨bl, 0, none⟩), .slice x5 n y5, .int .i64 d, undef, undef, undef, u6, .pointer (some ⟨bl, 0, none⟩), .bool true, u9, u10, u11, u12, cond b0 (.pointer (some ⟨bl, 0, none⟩)) (u13), cond b1 (.pointer (some ⟨bl, 0, none⟩)) (u14), cond b2 (.pointer (some ⟨bl, 0, none⟩)) (u15), cond b3 (.slice ua n uc) (u16), cond b4 (.slice x5 n y5) (u17), cond b5 (.int .i64 S) (u18), cond b6 (.pointer (some ⟨bl, 0, none⟩)) (u19), cond b7 (.pointer (some ⟨bl, 0, none⟩)) (u20), cond b8 (.pointer (some ⟨bl, 1, none⟩)) (u21), cond b9 (.int .i64 bk) (u22), cond b10 (.int .i64 d) (u23), cond b11 (.int .i64 q) (u24), cond b12 (.bool (decide (S < q))) (u25)], defers := [] } ∧ Below wr.heap.size wr w') ?_ ?_ ?_ ?_
      · rintro listed ac w' ⟨b0, b1, b2, b3, b4, b5, b6, b7, b8, b9, b10, b11, b12, _, rfl, _⟩
        rfl
      · rintro listed ac w' ⟨b0, b1, b2, b3, b4, b5, b6, b7, b8, b9, b10, b11, b12, _, rfl, rfl, hR⟩ hall
        have h0 := hall 0 (by simp)
        have h1 := hall 1 (by simp)
        have h2 := hall 2 (by simp)
        have h3 := hall 3 (by simp)
        have h4 := hall 4 (by simp)
        have h5 := hall 5 (by simp)
        have h6 := hall 6 (by simp)
        have h7 := hall 7 (by simp)
        have h8 := hall 8 (by simp)
        have h9 := hall 9 (by simp)
        have h10 := hall 10 (by simp)
        have h11 := hall 11 (by simp)
        have h12 := hall 12 (by simp)
        simp at h0 h1 h2 h3 h4 h5 h6 h7 h8 h9 h10 h11 h12
        subst h0 h1 h2 h3 h4 h5 h6 h7 h8 h9 h10 h11 h12
        clear hall
        refine hK0 _ _ ?_
        simp only [cond_true]
        have HBY := Lib.hid (HBW.out.trans (hR.mono HBW.out.size))
        have HRB := Lib.hid hR
        have hbx : bl < w'.heap.size := Nat.lt_of_lt_of_le hbl hR.size
        have z2 := (hR.cell (p := ⟨bl, 2, none⟩) hbl).trans c2
        clear hR c0 c1 c2 hbl
        by_cases hlt : S < q
        · have HF : Hid (ks.all (metJ A B L d n) = false) := Lib.hid (by rw [HALL.out, List.all_cons, HMET.out, HQ.out, decide_eq_false (by omega)]; rfl)
          clear z2
          go_wp2_with fail
          go_ret
          exact ⟨by rw [HF.out]; rfl, HBY.out⟩
        · have HT : Hid (ks.all (metJ A B L d n) = ks'.all (metJ A B L d n)) := Lib.hid (by rw [HALL.out, List.all_cons, HMET.out, HQ.out, decide_eq_true (by omega)]; rfl)
          have HD3 := Lib.hid (HD2.out.keep (W' := w') (fun j xs fr h => (HRB.out.block j (Array.getElem?_eq_some_iff.1 h).1).trans h))
          go_wp2_with fail
          go_roundw
          case rel => exact ⟨ks', yad, rfl, HD3.out, fun j hj => HM2.out j (by simp [hj]), HT.out, HBY.out⟩
          case measure =>
            rw [HMU.out _ _ _ HD3.out, HMUK.out]
            simp
      · exact ⟨false, false, false, false, false, false, false, false, false, false, false, false, false, by simp, rfl, rfl, (Below.refl _ _).drew⟩
      · rintro listed ac w' i oi ⟨b0, b1, b2, b3, b4, b5, b6, b7, b8, b9, b10, b11, b12, ⟨e1, e2, e3, e5, e7, e8, e9, e11, e12⟩, rfl, rfl, hR⟩ ho hun hdep
        have hi : i < 13 := by simpa using (Array.getElem?_eq_some_iff.1 ho).1
        obtain rfl | rfl | rfl | rfl | rfl | rfl | rfl | rfl | rfl | rfl | rfl | rfl | rfl : i = 0 ∨ i = 1 ∨ i = 2 ∨ i = 3 ∨ i = 4 ∨ i = 5 ∨ i = 6 ∨ i = 7 ∨ i = 8 ∨ i = 9 ∨ i = 10 ∨ i = 11 ∨ i = 12 := by omega
        · -- 0
          simp only [List.getElem?_toArray, List.getElem?_cons_zero, Option.some.injEq] at ho
          subst ho
          have hbi : b0 = false := by simpa using hun
          subst hbi
          obtain rfl : b1 = false := Bool.eq_false_iff.2 (fun h => Bool.noConfusion (e1 h))
          obtain rfl : b2 = false := Bool.eq_false_iff.2 (fun h => Bool.noConfusion (e2 h))
          obtain rfl : b3 = false := Bool.eq_false_iff.2 (fun h => Bool.noConfusion (e3 h))
          obtain rfl : b5 = false := Bool.eq_false_iff.2 (fun h => Bool.noConfusion (e5 h).1)
          obtain rfl : b12 = false := Bool.eq_false_iff.2 (fun h => Bool.noConfusion (e12 h).1)
          refine wpOpIn_step rfl (fun K hK => ?_)
          clear hun hdep hi
          go_simp
          refine hK _ _ ⟨true, false, false, false, b4, false, b6, b7, b8, b9, b10, b11, false, ⟨fun h => Bool.noConfusion h, fun h => Bool.noConfusion h, fun h => Bool.noConfusion h, fun h => Bool.noConfusion h, e7, e8, e9, e11, fun h => Bool.noConfusion h⟩, rfl, rfl, hR⟩
        · -- 1
          simp only [List.getElem?_toArray, List.getElem?_cons_succ, List.getElem?_cons_zero, Option.some.injEq] at ho
          subst ho
          have hbi : b1 = false := by simpa using hun
          subst hbi
          have hd0 : b0 = true := by have := hdep ⟨0, .data⟩ (by simp) rfl; simpa using this
          subst hd0
          obtain rfl : b2 = false := Bool.eq_false_iff.2 (fun h => Bool.noConfusion (e2 h))
          obtain rfl : b3 = false := Bool.eq_false_iff.2 (fun h => Bool.noConfusion (e3 h))
          obtain rfl : b5 = false := Bool.eq_false_iff.2 (fun h => Bool.noConfusion (e5 h).1)
          obtain rfl : b12 = false := Bool.eq_false_iff.2 (fun h => Bool.noConfusion (e12 h).1)
          refine wpOpIn_step rfl (fun K hK => ?_)
          clear hun hdep hi
          go_simp
          refine hK _ _ ⟨true, true, false, false, b4, false, b6, b7, b8, b9, b10, b11, false, ⟨fun _ => rfl, fun h => Bool.noConfusion h, fun h => Bool.noConfusion h, fun h => Bool.noConfusion h, e7, e8, e9, e11, fun h => Bool.noConfusion h⟩, rfl, rfl, hR⟩
        · -- 2
          simp only [List.getElem?_toArray, List.getElem?_cons_succ, List.getElem?_cons_zero, Option.some.injEq] at ho
          subst ho
          have hbi : b2 = false := by simpa using hun
          subst hbi
          have hd1 : b1 = true := by have := hdep ⟨1, .data⟩ (by simp) rfl; simpa using this
          have hd0 : b0 = true := (e1 hd1)
          subst hd0 hd1
          obtain rfl : b3 = false := Bool.eq_false_iff.2 (fun h => Bool.noConfusion (e3 h))
          obtain rfl : b5 = false := Bool.eq_false_iff.2 (fun h => Bool.noConfusion (e5 h).1)
          obtain rfl : b12 = false := Bool.eq_false_iff.2 (fun h => Bool.noConfusion (e12 h).1)
          refine wpOpIn_step rfl (fun K hK => ?_)
          clear hun hdep hi
          go_simp
          refine hK _ _ ⟨true, true, true, false, b4, false, b6, b7, b8, b9, b10, b11, false, ⟨fun _ => rfl, fun _ => rfl, fun h => Bool.noConfusion h, fun h => Bool.noConfusion h, e7, e8, e9, e11, fun h => Bool.noConfusion h⟩, rfl, rfl, hR⟩
        · -- 3
          simp only [List.getElem?_toArray, List.getElem?_cons_succ, List.getElem?_cons_zero, Option.some.injEq] at ho
          subst ho
          have hbi : b3 = false := by simpa using hun
          subst hbi
          have hd2 : b2 = true := by have := hdep ⟨2, .data⟩ (by simp) rfl; simpa using this
          have hd1 : b1 = true := (e2 hd2)
          have hd0 : b0 = true := (e1 hd1)
          subst hd0 hd1 hd2
          obtain rfl : b5 = false := Bool.eq_false_iff.2 (fun h => Bool.noConfusion (e5 h).1)
          obtain rfl : b12 = false := Bool.eq_false_iff.2 (fun h => Bool.noConfusion (e12 h).1)
          refine wpOpIn_step rfl (fun K hK => ?_)
          clear hun hdep hi
          have k0 := (hR.cell (p := ⟨bl, 0, none⟩) hbl).trans c0
          go_simp
          refine hK _ _ ⟨true, true, true, true, b4, false, b6, b7, b8, b9, b10, b11, false, ⟨fun _ => rfl, fun _ => rfl, fun _ => rfl, fun h => Bool.noConfusion h, e7, e8, e9, e11, fun h => Bool.noConfusion h⟩, rfl, rfl, hR⟩
        · -- 4
          simp only [List.getElem?_toArray, List.getElem?_cons_succ, List.getElem?_cons_zero, Option.some.injEq] at ho
          subst ho
          have hbi : b4 = false := by simpa using hun
          subst hbi
          obtain rfl : b5 = false := Bool.eq_false_iff.2 (fun h => Bool.noConfusion (e5 h).2)
          obtain rfl : b12 = false := Bool.eq_false_iff.2 (fun h => Bool.noConfusion (e12 h).1)
          refine wpOpIn_step rfl (fun K hK => ?_)
          clear hun hdep hi
          go_simp
          refine hK _ _ ⟨b0, b1, b2, b3, true, false, b6, b7, b8, b9, b10, b11, false, ⟨e1, e2, e3, fun h => Bool.noConfusion h, e7, e8, e9, e11, fun h => Bool.noConfusion h⟩, rfl, rfl, hR⟩
        · -- 5
          simp only [List.getElem?_toArray, List.getElem?_cons_succ, List.getElem?_cons_zero, Option.some.injEq] at ho
          subst ho
          have hbi : b5 = false := by simpa using hun
          subst hbi
          have hd3 : b3 = true := by have := hdep ⟨3, .data⟩ (by simp) rfl; simpa using this
          have hd4 : b4 = true := by have := hdep ⟨4, .data⟩ (by simp) rfl; simpa using this
          have hd2 : b2 = true := (e3 hd3)
          have hd1 : b1 = true := (e2 hd2)
          have hd0 : b0 = true := (e1 hd1)
          subst hd0 hd1 hd2 hd3 hd4
          obtain rfl : b12 = false := Bool.eq_false_iff.2 (fun h => Bool.noConfusion (e12 h).1)
          refine wpOpIn_step rfl (fun K hK => ?_)
          clear hun hdep hi
          go_simp
          refine ⟨trivial, (callsIn_wide.2 (HPW.out w' hR)).mono ?_⟩
          rintro e w'' ⟨rfl, hb⟩
          refine hK _ _ ⟨true, true, true, true, true, true, b6, b7, b8, b9, b10, b11, false, ⟨fun _ => rfl, fun _ => rfl, fun _ => rfl, fun _ => ⟨rfl, rfl⟩, e7, e8, e9, e11, fun h => Bool.noConfusion h⟩, rfl, rfl, hR.trans (hb.mono hR.size)⟩
        · -- 6
          simp only [List.getElem?_toArray, List.getElem?_cons_succ, List.getElem?_cons_zero, Option.some.injEq] at ho
          subst ho
          have hbi : b6 = false := by simpa using hun
          subst hbi
          obtain rfl : b7 = false := Bool.eq_false_iff.2 (fun h => Bool.noConfusion (e7 h))
          obtain rfl : b8 = false := Bool.eq_false_iff.2 (fun h => Bool.noConfusion (e8 h))
          obtain rfl : b9 = false := Bool.eq_false_iff.2 (fun h => Bool.noConfusion (e9 h))
          obtain rfl : b11 = false := Bool.eq_false_iff.2 (fun h => Bool.noConfusion (e11 h).1)
          obtain rfl : b12 = false := Bool.eq_false_iff.2 (fun h => Bool.noConfusion (e12 h).2)
          refine wpOpIn_step rfl (fun K hK => ?_)
          clear hun hdep hi
          go_simp
          refine hK _ _ ⟨b0, b1, b2, b3, b4, b5, true, false, false, false, b10, false, false, ⟨e1, e2, e3, e5, fun h => Bool.noConfusion h, fun h => Bool.noConfusion h, fun h => Bool.noConfusion h, fun h => Bool.noConfusion h, fun h => Bool.noConfusion h⟩, rfl, rfl, hR⟩
        · -- 7
          simp only [List.getElem?_toArray, List.getElem?_cons_succ, List.getElem?_cons_zero, Option.some.injEq] at ho
          subst ho
          have hbi : b7 = false := by simpa using hun
          subst hbi
          have hd6 : b6 = true := by have := hdep ⟨6, .data⟩ (by simp) rfl; simpa using this
          subst hd6
          obtain rfl : b8 = false := Bool.eq_false_iff.2 (fun h => Bool.noConfusion (e8 h))
          obtain rfl : b9 = false := Bool.eq_false_iff.2 (fun h => Bool.noConfusion (e9 h))
          obtain rfl : b11 = false := Bool.eq_false_iff.2 (fun h => Bool.noConfusion (e11 h).1)
          obtain rfl : b12 = false := Bool.eq_false_iff.2 (fun h => Bool.noConfusion (e12 h).2)
          refine wpOpIn_step rfl (fun K hK => ?_)
          clear hun hdep hi
          go_simp
          refine hK _ _ ⟨b0, b1, b2, b3, b4, b5, true, true, false, false, b10, false, false, ⟨e1, e2, e3, e5, fun _ => rfl, fun h => Bool.noConfusion h, fun h => Bool.noConfusion h, fun h => Bool.noConfusion h, fun h => Bool.noConfusion h⟩, rfl, rfl, hR⟩
        · -- 8
          simp only [List.getElem?_toArray, List.getElem?_cons_succ, List.getElem?_cons_zero, Option.some.injEq] at ho
          subst ho
          have hbi : b8 = false := by simpa using hun
          subst hbi
          have hd7 : b7 = true := by have := hdep ⟨7, .data⟩ (by simp) rfl; simpa using this
          have hd6 : b6 = true := (e7 hd7)
          subst hd6 hd7
          obtain rfl : b9 = false := Bool.eq_false_iff.2 (fun h => Bool.noConfusion (e9 h))
          obtain rfl : b11 = false := Bool.eq_false_iff.2 (fun h => Bool.noConfusion (e11 h).1)
          obtain rfl : b12 = false := Bool.eq_false_iff.2 (fun h => Bool.noConfusion (e12 h).2)
          refine wpOpIn_step rfl (fun K hK => ?_)
          clear hun hdep hi
          go_simp
          refine hK _ _ ⟨b0, b1, b2, b3, b4, b5, true, true, true, false, b10, false, false, ⟨e1, e2, e3, e5, fun _ => rfl, fun _ => rfl, fun h => Bool.noConfusion h, fun h => Bool.noConfusion h, fun h => Bool.noConfusion h⟩, rfl, rfl, hR⟩
        · -- 9
          simp only [List.getElem?_toArray, List.getElem?_cons_succ, List.getElem?_cons_zero, Option.some.injEq] at ho
          subst ho
          have hbi : b9 = false := by simpa using hun
          subst hbi
          have hd8 : b8 = true := by have := hdep ⟨8, .data⟩ (by simp) rfl; simpa using this
          have hd7 : b7 = true := (e8 hd8)
          have hd6 : b6 = true := (e7 hd7)
          subst hd6 hd7 hd8
          obtain rfl : b11 = false := Bool.eq_false_iff.2 (fun h => Bool.noConfusion (e11 h).1)
          obtain rfl : b12 = false := Bool.eq_false_iff.2 (fun h => Bool.noConfusion (e12 h).2)
          refine wpOpIn_step rfl (fun K hK => ?_)
          clear hun hdep hi
          have k0 := (hR.cell (p := ⟨bl, 1, none⟩) hbl).trans c1
          go_simp
          refine hK _ _ ⟨b0, b1, b2, b3, b4, b5, true, true, true, true, b10, false, false, ⟨e1, e2, e3, e5, fun _ => rfl, fun _ => rfl, fun _ => rfl, fun h => Bool.noConfusion h, fun h => Bool.noConfusion h⟩, rfl, rfl, hR⟩
        · -- 10
          simp only [List.getElem?_toArray, List.getElem?_cons_succ, List.getElem?_cons_zero, Option.some.injEq] at ho
          subst ho
          have hbi : b10 = false := by simpa using hun
          subst hbi
          obtain rfl : b11 = false := Bool.eq_false_iff.2 (fun h => Bool.noConfusion (e11 h).2)
          obtain rfl : b12 = false := Bool.eq_false_iff.2 (fun h => Bool.noConfusion (e12 h).2)
          refine wpOpIn_step rfl (fun K hK => ?_)
          clear hun hdep hi
          go_simp
          refine hK _ _ ⟨b0, b1, b2, b3, b4, b5, b6, b7, b8, b9, true, false, false, ⟨e1, e2, e3, e5, e7, e8, e9, fun h => Bool.noConfusion h, fun h => Bool.noConfusion h⟩, rfl, rfl, hR⟩
        · -- 11
          simp only [List.getElem?_toArray, List.getElem?_cons_succ, List.getElem?_cons_zero, Option.some.injEq] at ho
          subst ho
          have hbi : b11 = false := by simpa using hun
          subst hbi
          have hd9 : b9 = true := by have := hdep ⟨9, .data⟩ (by simp) rfl; simpa using this
          have hd10 : b10 = true := by have := hdep ⟨10, .data⟩ (by simp) rfl; simpa using this
          have hd8 : b8 = true := (e9 hd9)
          have hd7 : b7 = true := (e8 hd8)
          have hd6 : b6 = true := (e7 hd7)
          subst hd6 hd7 hd8 hd9 hd10
          obtain rfl : b12 = false := Bool.eq_false_iff.2 (fun h => Bool.noConfusion (e12 h).2)
          refine wpOpIn_step rfl (fun K hK => ?_)
          clear hun hdep hi
          have hw0 : IntKind.i64.wrap (bk * d) = q := HWQ.out
          go_simp
          refine hK _ _ ⟨b0, b1, b2, b3, b4, b5, true, true, true, true, true, true, false, ⟨e1, e2, e3, e5, fun _ => rfl, fun _ => rfl, fun _ => rfl, fun _ => ⟨rfl, rfl⟩, fun h => Bool.noConfusion h⟩, rfl, rfl, hR⟩
        · -- 12
          simp only [List.getElem?_toArray, List.getElem?_cons_succ, List.getElem?_cons_zero, Option.some.injEq] at ho
          subst ho
          have hbi : b12 = false := by simpa using hun
          subst hbi
          have hd5 : b5 = true := by have := hdep ⟨5, .data⟩ (by simp) rfl; simpa using this
          have hd11 : b11 = true := by have := hdep ⟨11, .data⟩ (by simp) rfl; simpa using this
          have hd10 : b10 = true := (e11 hd11).2
          have hd9 : b9 = true := (e11 hd11).1
          have hd8 : b8 = true := (e9 hd9)
          have hd7 : b7 = true := (e8 hd8)
          have hd6 : b6 = true := (e7 hd7)
          have hd4 : b4 = true := (e5 hd5).2
          have hd3 : b3 = true := (e5 hd5).1
          have hd2 : b2 = true := (e3 hd3)
          have hd1 : b1 = true := (e2 hd2)
          have hd0 : b0 = true := (e1 hd1)
          subst hd0 hd1 hd2 hd3 hd4 hd5 hd6 hd7 hd8 hd9 hd10 hd11
          refine wpOpIn_step rfl (fun K hK => ?_)
          clear hun hdep hi
          go_simp
          refine hK _ _ ⟨true, true, true, true, true, true, true, true, true, true, true, true, true, ⟨fun _ => rfl, fun _ => rfl, fun _ => rfl, fun _ => ⟨rfl, rfl⟩, fun _ => rfl, fun _ => rfl, fun _ => rfl, fun _ => ⟨rfl, rfl⟩, fun _ => ⟨rfl, rfl⟩⟩, rfl, rfl, hR⟩
end Go.Proofs.Ytoglmkjmnknbbaa.PW
