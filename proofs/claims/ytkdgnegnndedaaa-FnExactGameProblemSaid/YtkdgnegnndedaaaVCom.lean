/-
  Walks: fractions written with their least common denominator, in the model.
-/
import Derived.Test.YtkdgnegnndedaaaVFrs
import Derived.Test.YtkdgnegnndedaaaPColsA
import Derived.BigQuiet
namespace Go.Proofs.Ytkdgnegnndedaaa.PW
open Go.RowKit Go.Proofs.Ytkdgnegnndedaaa
open Go.Proofs.Ytkdgnegnndedaaa.PM

theorem row_snoc {α : Type} (f : α → Int) (xs : List α) (d : α) (k : Nat) (h : k < xs.length) : (xs.take k).map f ++ [f (xs.getD k d)] = (xs.take (k + 1)).map f := by
  rw [List.take_succ_eq_append_getElem h, List.map_append]
  simp [h]
theorem FreshI.shape2 {B n : Nat} {w : World} {v : Value} {xs : List Int} (h : FreshI B w v xs) (hn : xs.length = n) : ∃ g cap, v = .slice (some ⟨g, 0, none⟩) n cap ∧ B ≤ g ∧ g < w.heap.size := by
  obtain ⟨g, cap, h1, h2, h3, _⟩ := h
  exact ⟨g, cap, by rw [h1, hn], h2, h3⟩
/-- What l01Common leaves. -/
def ComS (w : World) (xs : List (Int × Int)) (e : Ending) (w' : World) : Prop := match comOut xs with
  | none => e = .returned (.tuple #[.slice none 0 0, .int .i64 0, .bool false]) ∧ Below w.heap.size w w'
  | some d => ∃ g cap, e = .returned (.tuple #[.slice (some ⟨g, 0, none⟩) xs.length cap, .int .i64 d, .bool true]) ∧ FreshI w.heap.size w' (.slice (some ⟨g, 0, none⟩) xs.length cap) (xs.map (numI d)) ∧ Below w.heap.size w w'

set_option maxRecDepth 100000 in
set_option maxHeartbeats 2000000 in
theorem l01Common_any (v : Value) (xs : List (Int × Int)) (w : World) (hv : Frs w v xs) (hF : fracs xs) (hn1 : 1 ≤ xs.length) (hn : xs.length ≤ 1000) :
    Calls Try.prog 121 #[v] w (ComS w xs) := by
  obtain ⟨b, off, c, rfl, hb, hcell⟩ := hv.at_ hn1
  obtain ⟨j0, hj, hyy0, hyy1, hyy2⟩ := info_parts info_int
  have HC := Lib.hid hcell
  have HFr := Lib.hid (fun k (hk : k < xs.length) => FM.isF_yes (hF _ (getD_mem2 hk)))
  have HFI := Lib.hid (fun k (hk : k < xs.length) => hF _ (getD_mem2 hk))
  have HBD := Lib.hid (fun e => comD_bd xs 1 e (by omega) hF)
  have HNO := Lib.hid (show comD 1 xs = none → ∀ w', Below w.heap.size w w' → ComS w xs (.returned (.tuple #[.slice none 0 0, .int .i64 0, .bool false])) w' from fun h w' hw => by
    unfold ComS comOut; rw [h]; exact ⟨(rfl : _ = _), hw⟩)
  have HNO2 := Lib.hid (show ∀ d, comD 1 xs = some d → numsOk d xs = false → ∀ w', Below w.heap.size w w' → ComS w xs (.returned (.tuple #[.slice none 0 0, .int .i64 0, .bool false])) w' from fun d h h2 w' hw => by
    unfold ComS comOut; rw [h]; simp only [h2]; exact ⟨by simp, hw⟩)
  have HYES := Lib.hid (show ∀ d, comD 1 xs = some d → numsOk d xs = true → ∀ g cap w', FreshI w.heap.size w' (.slice (some ⟨g, 0, none⟩) xs.length cap) (xs.map (numI d)) → Below w.heap.size w w' → ComS w xs (.returned (.tuple #[.slice (some ⟨g, 0, none⟩) xs.length cap, .int .i64 d, .bool true])) w' from fun d h h2 g cap w' hf hw => by
    unfold ComS comOut; rw [h]; simp only [h2]; exact ⟨g, cap, rfl, hf, hw⟩)
  have HIF := Lib.hid (fun d => numsOk_iff d xs)
  generalize ComS w xs = POST at *
  clear hv hcell hF
  go_enter Try.func121, Try.ntmps121
  go_wp2_with fail
  go_loopw [5, 6] (fun d i wr => ∃ (k : Nat) (y : Int), k ≤ xs.length ∧ i = .int .i64 k ∧ d = .int .i64 y ∧ (1 ≤ y ∧ y ≤ 1000000000) ∧ Hid (comD 1 xs = comD y (xs.drop k)) ∧ Below w.heap.size w wr) (fun _ i _ => xs.length - (intOf i).toNat)
  case atStart => exact ⟨0, 1, Nat.zero_le _, rfl, rfl, by omega, rfl, Below.refl _ _⟩
  case round =>
    obtain ⟨k, y, hk, rfl, rfl, hy, hcom, hB⟩ := hrel
    by_cases hlt : k < xs.length
    · obtain ⟨c1, c2⟩ := HC.out wr hB k hlt
      have hst := comD_drop hlt y
      obtain ⟨f1, f2, f3, f4, _⟩ := HFr.out k hlt
      obtain ⟨z, hz⟩ : ∃ z, z = (xs.getD k (0, 0)).2 := ⟨_, rfl⟩
      rw [← hz] at c2 hst f3 f4
      obtain ⟨g1, g2, ⟨g3, g4⟩, g5, g6⟩ := com_step hy (y := z) ⟨f3, f4⟩
      have hgc := fun w' => FW.l01Gcd_any y z w' (by omega) (by omega) (by omega) (by omega)
      obtain ⟨G, hG⟩ : ∃ G, G = FM.gcdI y z := ⟨_, rfl⟩
      rw [← hG] at hst g1 g2 g3 g4 g5 g6
      simp only [← hG] at hgc
      have HG := Lib.hid hgc
      have hG0 : ¬ G = 0 := by omega
      obtain ⟨q, hq⟩ : ∃ q, q = y.tdiv G := ⟨_, rfl⟩
      rw [← hq] at hst g3 g4 g5 g6
      obtain ⟨p, hp⟩ : ∃ p, p = q * z := ⟨_, rfl⟩
      rw [← hp] at hst g5 g6
      have hw1 : wrap64 q = q := IntWalk.wrap64_in _ (by omega)
      have hw2 : wrap64 p = p := IntWalk.wrap64_in _ (by omega)
      have hgb : Hid (0 < G ∧ 1 ≤ q) := ⟨g1, g3⟩
      have HBd := Lib.hid (fun n => below_drewN hB n)
      have HST := Lib.hid hst
      have HP5 := Lib.hid (And.intro g5 g6)
      have hq' := hq.symm
      have hp' := hp.symm
      clear hst f1 f2 f3 f4 g1 g2 g3 g4 g5 g6 hgc hG hq hp hz c1 hB hgb
      by_cases hlim : 1000000000 < p
      · have HO := Lib.hid (HNO.out (hcom.out.trans (HST.out.trans (if_pos hlim))))
        go_wp2_with fail
        go_quiet ((go_at_call 126; exact Calls.quiet_of_same ((HG.out _).mono fun e w' ⟨he, hw⟩ => ⟨he, hw.symm⟩)))
        go_wp2_with fail
        exact HO.out _ (HBd.out _)
      · have hnx : Hid (comD 1 xs = comD p (xs.drop (k + 1))) := hcom.out.trans (HST.out.trans (if_neg hlim))
        go_wp2_with fail
        go_quiet ((go_at_call 126; exact Calls.quiet_of_same ((HG.out _).mono fun e w' ⟨he, hw⟩ => ⟨he, hw.symm⟩)))
        go_wp2_with fail
        go_roundw
        case rel => exact ⟨k + 1, p, by omega, by go_num, (by first | rfl | rw [hw2]), ⟨HP5.out.1, by omega⟩, hnx, HBd.out _⟩
        case measure => simp [intOf]; omega
    · obtain rfl : k = xs.length := by omega
      have hd : comD 1 xs = some y := by rw [hcom.out, List.drop_length]; rfl
      have HD := Lib.hid hd
      obtain ⟨W1, rfl⟩ : ∃ W1, W1 = wr := ⟨_, rfl⟩
      have HB1 := Lib.hid hB
      have hzr := hB.size
      have HF0 := Lib.hid (freshI_nil W1)
      clear hd hcom hB
      go_wp2_with fail
      go_loopw [7, 8, 9] (fun v i _ wi => ∃ (k : Nat), k ≤ xs.length ∧ i = .int .i64 k ∧ FreshI W1.heap.size wi v ((xs.take k).map (numI y)) ∧ Hid (∀ j, j < k → -1000000000000 ≤ numI y (xs.getD j (0, 0)) ∧ numI y (xs.getD j (0, 0)) ≤ 1000000000000) ∧ Below W1.heap.size W1 wi) (fun _ i _ _ => xs.length - (intOf i).toNat)
      case atStart => exact ⟨0, Nat.zero_le _, rfl, HF0.out, fun j hj => absurd hj (Nat.not_lt_zero _), (Below.refl _ _).alloc (Nat.le_refl _) _⟩
      case round =>
        obtain ⟨k, hk, rfl, hI, hgood, hB⟩ := hrel
        have hzi := hB.size
        by_cases hlt : k < xs.length
        · obtain ⟨c1, c2⟩ := HC.out wr (HB1.out.trans (hB.mono hzr)) k hlt
          obtain ⟨f1, f2, f3, f4, _⟩ := HFr.out k hlt
          obtain ⟨⟨q1, q2⟩, n1, n2⟩ := numI_bd hy (HFI.out k hlt)
          have hnum : numI y (xs.getD k (0, 0)) = (xs.getD k (0, 0)).1 * y.tdiv (xs.getD k (0, 0)).2 := rfl
          have hsn := row_snoc (numI y) xs (0, 0) k hlt
          have hbad : Hid (¬ (-1000000000000 ≤ numI y (xs.getD k (0, 0)) ∧ numI y (xs.getD k (0, 0)) ≤ 1000000000000) → numsOk y xs = false) := fun h => by
            rw [Bool.eq_false_iff]
            intro c
            exact h ((HIF.out y).1 c k hlt)
          have hnx : Hid (-1000000000000 ≤ numI y (xs.getD k (0, 0)) ∧ numI y (xs.getD k (0, 0)) ≤ 1000000000000 → ∀ j, j < k + 1 → -1000000000000 ≤ numI y (xs.getD j (0, 0)) ∧ numI y (xs.getD j (0, 0)) ≤ 1000000000000) := fun h j hj => by
            by_cases e : j = k
            · subst e; exact h
            · exact hgood.out j (by omega)
          obtain ⟨N, hN⟩ : ∃ N, N = numI y (xs.getD k (0, 0)) := ⟨_, rfl⟩
          obtain ⟨x, hx⟩ : ∃ x, x = (xs.getD k (0, 0)).1 := ⟨_, rfl⟩
          obtain ⟨z, hz⟩ : ∃ z, z = (xs.getD k (0, 0)).2 := ⟨_, rfl⟩
          rw [← hN] at hnum n1 n2 hsn hbad hnx
          rw [← hx] at c1 f1 f2 hnum
          rw [← hz] at c2 f3 f4 hnum q1 q2
          have hz0 : ¬ z = 0 := by omega
          obtain ⟨Y, hY⟩ : ∃ Y, Y = y.tdiv z := ⟨_, rfl⟩
          rw [← hY] at hnum q1 q2
          have hl : ((xs.take k).map (numI y)).length = k := by simp; omega
          have how := hI.owns
          rw [hl] at how
          have HSN := Lib.hid hsn
          have hw1 : wrap64 Y = Y := IntWalk.wrap64_in _ (by omega)
          have hw2 : wrap64 N = N := IntWalk.wrap64_in _ (by omega)
          have HBd := Lib.hid (fun n => below_drewN hB n)
          have HID := Lib.hid (fun n => hI.below (below_drewN (Below.refl _ _) n))
          have HOW := Lib.hid (fun n => show (wr.drewN n).ownsRow 0 2 1 u7 k (((xs.take k).map (numI y)).map (Value.int .i64)) from by
            have := (hI.below (below_drewN (Below.refl _ _) n)).owns
            rwa [hl] at this)
          have HL := Lib.hid hl
          have hnum' := hnum.symm
          have hY' := hY.symm
          clear hnum hY hN hx hz f1 f2 f3 f4 q1 q2 hsn hl how hI hB
          by_cases hin : -1000000000000 ≤ N ∧ N ≤ 1000000000000
          case neg =>
            have HO := Lib.hid (HNO2.out y HD.out (hbad.out hin))
            have HDD := Lib.hid (show decide (-1000000000000 ≤ N ∧ N ≤ 1000000000000) = false from decide_eq_false hin)
            clear hin hnx hbad
            go_wp2_with fail
            go_quiet (fail)
            go_wp2_with fail
            refine (l01In_is _ _ _ _ _ HDD.out).mono ?_; rintro e w' ⟨rfl, rfl⟩
            go_wp2_with fail
            exact HO.out _ (HB1.out.trans ((HBd.out _).mono hzr))
          have HX := Lib.hid (hnx.out hin)
          have HDD := Lib.hid (show decide (-1000000000000 ≤ N ∧ N ≤ 1000000000000) = true from decide_eq_true hin)
          clear hin hnx hbad
          go_wp2_with fail
          go_quiet (fail)
          go_wp2_with fail
          refine (l01In_is _ _ _ _ _ HDD.out).mono ?_; rintro e w' ⟨rfl, rfl⟩
          go_wp2_with (at_builtin; refine wpList_append_lies _ rfl _ _ 23 rfl 0 2 j0 (.int .i64 0) 1 8 Try.underlying23 hj hyy0 hyy1 hyy2 rfl (by decide) u7 k _ rfl ((HOW.out _).alloc _) _ 1 _ [.int .i64 N] rfl rfl (cell_one_new _ _ _) (by simp [Value.oneCell']) (by decide) (by unfold maxLen; omega) (by omega) (Nat.zero_le _) _ rfl ?_; intro g cap w3 hown hgrow hat hgl)
          have hpu := (HID.out nq).push (by simpa using hzi) HL.out.symm hown hat hgl
          have hgr := (HID.out nq).grow (HBd.out nq) (by simpa using hzi) hgrow
          rw [HSN.out] at hpu
          have HPU := Lib.hid hpu
          have HGR := Lib.hid hgr
          clear hpu hgr hown hgrow hat hgl
          go_wp2_with fail
          go_roundw
          case rel => exact ⟨k + 1, by omega, by go_num, HPU.out, HX, HGR.out⟩
          case measure => simp [intOf]; omega
        · obtain rfl : k = xs.length := by omega
          have hok : Hid (numsOk y xs = true) := (HIF.out y).2 hgood.out
          rw [List.take_length] at hI
          obtain ⟨g, cap, rfl, hg1, hg2⟩ := FreshI.shape2 (n := xs.length) hI (by simp)
          have HY := Lib.hid (HYES.out y HD.out hok.out g cap wr (hI.mono hzr) (HB1.out.trans (hB.mono hzr)))
          clear hI hB hgood
          go_wp2_with fail
          exact HY.out
end Go.Proofs.Ytkdgnegnndedaaa.PW
