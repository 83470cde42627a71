/-
  Walks: fractions written with their least common denominator, in the program: a map.
-/
import Derived.Test.YtkdgnegnndedaaaVCom
import Derived.Test.YtkdgnegnndedaaaVMap
import Derived.Test.YtkdgnegnndedaaaPRoundB
namespace Go.Proofs.Ytkdgnegnndedaaa.PW
open Go.RowKit Go.Proofs.Ytkdgnegnndedaaa
open Go.Proofs.Ytkdgnegnndedaaa.PM

/-- What commonNums leaves. -/
def ComI (w : World) (xs : List (Int × Int)) (e : Ending) (w' : World) : Prop := match comOut xs with
  | none => e = .returned (.tuple #[.map none, .int .i64 0, .bool false]) ∧ Below w.heap.size w w'
  | some d => ∃ B, e = .returned (.tuple #[.map (some B), .int .i64 d, .bool true]) ∧ MapN w' B xs.length xs (numI d) ∧ w.heap.size ≤ B ∧ Below w.heap.size w w'

/-- The memory while a number is put into the map. -/
structure MuR (W w' : World) (B n : Nat) (xs : List (Int × Int)) (N : Int × Int → Int) (x : Int × Int) (b9 : Bool) : Prop where
  low : b9 = false → Below W.heap.size W w'
  fin : b9 = true → MapN w' B (n + 1) (xs ++ [x]) N ∧ ∃ W', Below W.heap.size W W' ∧ W'.grownBy w' (some B)
theorem MuR.put_ {W w' w2 : World} {B n : Nat} {xs ys : List (Int × Int)} {N : Int × Int → Int} {x : Int × Int} (h : MuR W w' B n xs N x false) (hy : xs ++ [x] = ys) (hm : MapN w2 B (n + 1) ys N) (hg : w'.grownBy w2 (some B)) : MuR W w2 B n xs N x true :=
  ⟨fun e => (by cases e), fun _ => ⟨by rw [hy]; exact hm, w', h.low rfl, hg⟩⟩
theorem take_snoc {α : Type} (xs : List α) (d : α) (k : Nat) (h : k < xs.length) : xs.take k ++ [xs.getD k d] = xs.take (k + 1) := by
  rw [List.take_succ_eq_append_getElem h]
  simp [h]

set_option maxRecDepth 100000 in
set_option maxHeartbeats 4000000 in
theorem commonNums_any (v : Value) (xs : List (Int × Int)) (w : World) (hv : Frs w v xs) (hF : fracs xs) (hn1 : 1 ≤ xs.length) (hn : xs.length ≤ 1000) :
    Calls Try.prog 123 #[v] w (ComI w xs) := by
  have hmx : Try.prog.follows .mixedOrders = true := by kernel_rfl
  obtain ⟨b, off, c, rfl, hb, hcell⟩ := hv.at_ hn1
  have HI6 := Lib.hid hv.i64
  have hmm := @run_makeMap Try.prog
  have HC := Lib.hid hcell
  have HFr := Lib.hid (fun k (hk : k < xs.length) => FM.isF_yes (hF _ (getD_mem2 hk)))
  have HFI := Lib.hid (fun k (hk : k < xs.length) => hF _ (getD_mem2 hk))
  have HNO := Lib.hid (show comD 1 xs = none → ∀ w', Below w.heap.size w w' → ComI w xs (.returned (.tuple #[.map none, .int .i64 0, .bool false])) w' from fun h w' hw => by
    unfold ComI comOut; rw [h]; exact ⟨rfl, hw⟩)
  have HNO2 := Lib.hid (show ∀ d, comD 1 xs = some d → numsOk d xs = false → ∀ w', Below w.heap.size w w' → ComI w xs (.returned (.tuple #[.map none, .int .i64 0, .bool false])) w' from fun d h h2 w' hw => by
    unfold ComI comOut; rw [h]; simp only [h2]; exact ⟨by simp, hw⟩)
  have HYES := Lib.hid (show ∀ d, comD 1 xs = some d → numsOk d xs = true → ∀ B w', MapN w' B xs.length xs (numI d) → w.heap.size ≤ B → Below w.heap.size w w' → ComI w xs (.returned (.tuple #[.map (some B), .int .i64 d, .bool true])) w' from fun d h h2 B w' hf hB hw => by
    unfold ComI comOut; rw [h]; simp only [h2]; exact ⟨B, by simp, hf, hB, hw⟩)
  have HIF := Lib.hid (fun d => numsOk_iff d xs)
  generalize ComI w xs = POST at *
  clear hv hcell hF
  go_enter Try.func123, Try.ntmps123
  go_wp2_with fail
  go_loopw [5, 7, 13] (fun d _ i wr => ∃ (k : Nat) (y : Int), k ≤ xs.length ∧ i = .int .i64 k ∧ d = .int .i64 y ∧ (1 ≤ y ∧ y ≤ 1000000000) ∧ Hid (comD 1 xs = comD y (xs.drop k)) ∧ Below w.heap.size w wr) (fun _ _ i _ => xs.length - (intOf i).toNat)
  case atStart => exact ⟨0, 1, Nat.zero_le _, rfl, rfl, by omega, rfl, Below.refl _ _⟩
  case round =>
    obtain ⟨k, y, hk, rfl, rfl, hy, hcom, hB⟩ := hrel
    by_cases hlt : k < xs.length
    · obtain ⟨c1, c2⟩ := HC.out wr hB k hlt
      have hst := comD_drop hlt y
      obtain ⟨f1, f2, f3, f4, _⟩ := HFr.out k hlt
      obtain ⟨x, hx⟩ : ∃ x, x = (xs.getD k (0, 0)).1 := ⟨_, rfl⟩
      obtain ⟨z, hz⟩ : ∃ z, z = (xs.getD k (0, 0)).2 := ⟨_, rfl⟩
      rw [← hx] at c1
      rw [← hz] at c2 hst f3 f4
      obtain ⟨g1, g2, ⟨g3, g4⟩, g5, g6⟩ := com_step hy (y := z) ⟨f3, f4⟩
      have hgc := fun w' => FW.greatestDivisor_any y z w' (by omega) (by omega) (by omega) (by omega)
      obtain ⟨G, hG⟩ : ∃ G, G = FM.gcdI y z := ⟨_, rfl⟩
      rw [← hG] at hst g1 g2 g3 g4 g5 g6
      simp only [← hG] at hgc
      have HG := Lib.hid hgc
      have hG0 : ¬ G = 0 := by omega
      obtain ⟨q, hq⟩ : ∃ q, q = y.tdiv G := ⟨_, rfl⟩
      rw [← hq] at hst g3 g4 g5 g6
      obtain ⟨p, hp⟩ : ∃ p, p = q * z := ⟨_, rfl⟩
      rw [← hp] at hst g5 g6
      have hw1 : wrap64 q = q := IntWalk.wrap64_in _ (by omega)
      have hw2 : wrap64 p = p := IntWalk.wrap64_in _ (by omega)
      have hzw := hB.size
      have HBd := Lib.hid (fun n => below_drewN (hB.alloc hzw (.cells #[.int .i64 x, .int .i64 z] 61)) n)
      have HST := Lib.hid hst
      have HP5 := Lib.hid (And.intro g5 g6)
      have hq' := hq.symm
      have hp' := hp.symm
      clear hst f1 f2 f3 f4 g1 g2 g3 g4 g5 g6 hgc hG hq hp hz hx hB
      by_cases hlim : 1000000000 < p
      · have HO := Lib.hid (HNO.out (hcom.out.trans (HST.out.trans (if_pos hlim))))
        go_wp2_with fail
        go_quiet ((go_at_call 140; exact Calls.quiet_of (HG.out _)))
        go_wp2_with fail
        exact HO.out _ (HBd.out _)
      · have hnx : Hid (comD 1 xs = comD p (xs.drop (k + 1))) := hcom.out.trans (HST.out.trans (if_neg hlim))
        go_wp2_with fail
        go_quiet ((go_at_call 140; exact Calls.quiet_of (HG.out _)))
        go_wp2_with fail
        go_roundw
        case rel => exact ⟨k + 1, p, by omega, by go_num, (by first | rfl | rw [hw2]), ⟨HP5.out.1, by omega⟩, hnx, HBd.out _⟩
        case measure => simp [intOf]; omega
    · obtain rfl : k = xs.length := by omega
      have hd : comD 1 xs = some y := by rw [hcom.out, List.drop_length]; rfl
      have HD := Lib.hid hd
      obtain ⟨W1, rfl⟩ : ∃ W1, W1 = wr := ⟨_, rfl⟩
      have HB1 := Lib.hid hB
      have hzr := hB.size
      have HM0 := Lib.hid (mapN_made W1 (numI y))
      have hA0 : Below W1.heap.size W1 (W1.alloc (.map #[] 0)) := (Below.refl _ _).alloc (Nat.le_refl _) _
      clear hd hcom hB
      obtain ⟨B, hBe⟩ : ∃ B, B = W1.heap.size := ⟨_, rfl⟩
      go_wp2_with fail
      rw [← hBe]
      rw [← hBe] at HM0
      have hBz : W1.heap.size ≤ B := by omega
      clear hBe
      go_loopw [10, 32] (fun _ i wi => ∃ (k : Nat), k ≤ xs.length ∧ i = .int .i64 k ∧ MapN wi B k (xs.take k) (numI y) ∧ Hid (∀ j, j < k → -1000000000000 ≤ numI y (xs.getD j (0, 0)) ∧ numI y (xs.getD j (0, 0)) ≤ 1000000000000) ∧ Below W1.heap.size W1 wi) (fun _ i _ => xs.length - (intOf i).toNat)
      case atStart => exact ⟨0, Nat.zero_le _, rfl, HM0.out, fun j hj => absurd hj (Nat.not_lt_zero _), hA0⟩
      case round =>
        obtain ⟨k, hk, rfl, hM, hgood, hB⟩ := hrel
        have hzi := hB.size
        by_cases hlt : k < xs.length
        · obtain ⟨c1, c2⟩ := HC.out wr (HB1.out.trans (hB.mono hzr)) k hlt
          obtain ⟨f1, f2, f3, f4, _⟩ := HFr.out k hlt
          obtain ⟨⟨q1, q2⟩, n1, n2⟩ := numI_bd hy (HFI.out k hlt)
          have hnum : numI y (xs.getD k (0, 0)) = (xs.getD k (0, 0)).1 * y.tdiv (xs.getD k (0, 0)).2 := rfl
          have hsn := take_snoc xs (0, 0) k hlt
          have hbad : Hid (¬ (-1000000000000 ≤ numI y (xs.getD k (0, 0)) ∧ numI y (xs.getD k (0, 0)) ≤ 1000000000000) → numsOk y xs = false) := fun h => by
            rw [Bool.eq_false_iff]
            intro c
            exact h ((HIF.out y).1 c k hlt)
          have hnx : Hid (-1000000000000 ≤ numI y (xs.getD k (0, 0)) ∧ numI y (xs.getD k (0, 0)) ≤ 1000000000000 → ∀ j, j < k + 1 → -1000000000000 ≤ numI y (xs.getD j (0, 0)) ∧ numI y (xs.getD j (0, 0)) ≤ 1000000000000) := fun h j hj => by
            by_cases e : j = k
            · subst e; exact h
            · exact hgood.out j (by omega)
          have hput := fun (w' : World) (h : Below wr.heap.size wr w') => (hM.below h hM.lt).put (x := xs.getD k (0, 0)) (by unfold maxLen; omega) (HI6.out _ (getD_mem2 hlt)).1 (HI6.out _ (getD_mem2 hlt)).2 (show I64 _ from ⟨by omega, by omega⟩) (fun u hu => HI6.out u (List.mem_of_mem_take hu))
          have hlook := fun (w' : World) (h : MapN w' B (k + 1) (xs.take (k + 1)) (numI y)) => h.look (x := xs.getD k (0, 0)) (by rw [← hsn]; simp) (HI6.out _ (getD_mem2 hlt)).1 (HI6.out _ (getD_mem2 hlt)).2
          rw [hsn] at hput
          obtain ⟨X, hX⟩ : ∃ X, X = xs.getD k (0, 0) := ⟨_, rfl⟩
          rw [← hX] at hnum n1 n2 hbad hnx q1 q2 f1 f2 f3 f4 c1 c2 hput hlook
          obtain ⟨x, z⟩ := X
          simp only at hnum f1 f2 f3 f4 q1 q2 c1 c2 hput hlook
          obtain ⟨N, hN⟩ : ∃ N, N = numI y (x, z) := ⟨_, rfl⟩
          rw [← hN] at hnum n1 n2 hbad hnx hput hlook
          have hz0 : ¬ z = 0 := by omega
          obtain ⟨Y, hY⟩ : ∃ Y, Y = y.tdiv z := ⟨_, rfl⟩
          rw [← hY] at hnum q1 q2
          have HPUT := Lib.hid hput
          have HSN := Lib.hid (show xs.take k ++ [(x, z)] = xs.take (k + 1) by rw [← hsn, hX])
          have HLOOK := Lib.hid hlook
          have HBW := Lib.hid hB
          have hw1 : wrap64 Y = Y := IntWalk.wrap64_in _ (by omega)
          have hw2 : wrap64 N = N := IntWalk.wrap64_in _ (by omega)
          have hv1 : IntKind.i64.wrap Y = Y := IntWalk.i64_in _ (by omega)
          have hv2 : IntKind.i64.wrap N = N := IntWalk.i64_in _ (by omega)
          have hBlt := hM.lt
          have hnum' := hnum.symm
          have hY' := hY.symm
          clear hnum hY hN hX f1 f2 f3 f4 q1 q2 hsn hB hM hput hlook
          go_wp2_with fail
          have hAL : Below wr.heap.size wr (wr.alloc (.cells #[.int .i64 x, .int .i64 z] 61)) := (Below.refl _ _).alloc (Nat.le_refl _) _
          obtain ⟨P, hP⟩ : ∃ P, P = wr.heap.size := ⟨_, rfl⟩
          have hPB : P ≠ B := by omega
          obtain ⟨W, hW⟩ : ∃ W, W = wr.alloc (.cells #[.int .i64 x, .int .i64 z] 61) := ⟨_, rfl⟩
          have hPW : P < W.heap.size := by rw [hW]; simp; omega
          have z0 : W.cell? ⟨P, 0, none⟩ = some (.int .i64 x) := by rw [hW, hP]; simp
          have z1 : W.cell? ⟨P, 1, none⟩ = some (.int .i64 z) := by rw [hW, hP]; simp
          rw [← hW] at hAL ⊢
          rw [← hP]
          have HAL := Lib.hid hAL
          have HNB := Lib.hid (And.intro n1 n2)
          clear hAL hW hP n1 n2 hw1 hw2 hBlt hzi
          rename_i K0 hK0
          refine (wpIn_wide (n := 8)).1 ?_
          refine PR.wpIn_region_inv hmx (by kernel_rfl) (fun listed ac w' =>
              ∃ (b0 b1 b2 b3 b4 b5 b6 b7 b8 b9 : Bool), ((b3 = true → b2 = true) ∧ (b6 = true → b5 = true) ∧ (b7 = true → b4 = true ∧ b6 = true) ∧ (b8 = true → b3 = true ∧ b7 = true) ∧ (b9 = true → b0 = true ∧ b1 = true ∧ b8 = true)) ∧ listed = #[b0, b1, b2, b3, b4, b5, b6, b7, b8, b9] ∧
                ac = { tmps := #[.slice (some ⟨b, off, none⟩) xs.length c, undef, u2, u3, u4, .int .i64 y, undef, u7, .map (some B), undef, .pointer (some ⟨P, 0, none⟩), .slice (some ⟨b, off, none⟩) xs.length c, .int .i64 xs.length, .int .i64 xs.length, .bool false, u15, u16, u17, u18, u19, u20, u21, u22, u23, u24, u25, u26, u27, u28, .map (some B), .slice (some ⟨b, off, none⟩) xs.length c, .int .i64 xs.length, .int .i64 k, .bool true, .pointer (some ⟨b, off + k * 2, none⟩), .agg #[.int .i64 x, .int .i64 z], cond b0 (.map (some B)) (u36), cond b1 (.agg #[.int .i64 x, .int .i64 z]) (u37), cond b2 (.pointer (some ⟨P, 0, none⟩)) (u38), cond b3 (.int .i64 x) (u39), cond b4 (.int .i64 y) (u40), cond b5 (.pointer (some ⟨P, 1, none⟩)) (u41), cond b6 (.int .i64 z) (u42), cond b7 (.int .i64 Y) (u43), cond b8 (.int .i64 N) (u44), u45, u46, u47, u48, u49, u50, undef, undef], defers := [] } ∧ MuR W w' B k (xs.take k) (numI y) (x, z) b9) ?_ ?_ ?_ ?_
          · rintro listed ac w' ⟨b0, b1, b2, b3, b4, b5, b6, b7, b8, b9, _, rfl, _⟩
            rfl
          · rintro listed ac w' ⟨b0, b1, b2, b3, b4, b5, b6, b7, b8, b9, _, rfl, rfl, hR⟩ hall
            have h0 := hall 0 (by simp)
            have h1 := hall 1 (by simp)
            have h2 := hall 2 (by simp)
            have h3 := hall 3 (by simp)
            have h4 := hall 4 (by simp)
            have h5 := hall 5 (by simp)
            have h6 := hall 6 (by simp)
            have h7 := hall 7 (by simp)
            have h8 := hall 8 (by simp)
            have h9 := hall 9 (by simp)
            simp at h0 h1 h2 h3 h4 h5 h6 h7 h8 h9
            subst h0 h1 h2 h3 h4 h5 h6 h7 h8 h9
            clear hall
            refine hK0 _ _ ?_
            simp only [cond_true]
            obtain ⟨hm, W', hl, hgr⟩ := hR.fin rfl
            rw [HSN.out] at hm
            have HM := Lib.hid hm
            have hbw : Below W1.heap.size W1 w' := by
              have h1 : Below W1.heap.size W1 W := HBW.out.trans (HAL.out.mono HBW.out.size)
              have h2 : Below W1.heap.size W1 W' := h1.trans (hl.mono h1.size)
              exact h2.grown hgr h2.size (fun b hb => by obtain rfl : B = b := (by simpa using hb); exact hBz)
            have hpb : w'.cell? ⟨P, 0, none⟩ = some (.int .i64 x) ∧ w'.cell? ⟨P, 1, none⟩ = some (.int .i64 z) := by
              have e : w'.heap[P]? = W.heap[P]? := (hgr.block P (by have := hl.size; omega) (fun c => hPB (by simpa using c))).trans (hl.block P (by omega))
              exact ⟨(World.cell?_of_block (w := W) (a := ⟨P, 0, none⟩) e).trans z0, (World.cell?_of_block (w := W) (a := ⟨P, 1, none⟩) e).trans z1⟩
            obtain ⟨t0, t1⟩ := hpb
            have hrl := HLOOK.out w' hm
            have HB2 := Lib.hid hbw
            clear hR hl hgr hm hbw z0 z1
            by_cases hin : -1000000000000 ≤ N ∧ N ≤ 1000000000000
            case neg =>
              have HO := Lib.hid (HNO2.out y HD.out (hbad.out hin) w' (HB1.out.trans (HB2.out.mono hzr)))
              have HDD := Lib.hid (show decide (-1000000000000 ≤ N ∧ N ≤ 1000000000000) = false from decide_eq_false hin)
              clear hin hnx hbad
              go_wp2_with fail
              refine (isWithin_is _ _ _ _ (by omega) (by omega) HDD.out).mono ?_; rintro e w2 ⟨rfl, rfl⟩
              go_wp2_with fail
              exact HO.out
            have HX := Lib.hid (hnx.out hin)
            have HDD := Lib.hid (show decide (-1000000000000 ≤ N ∧ N ≤ 1000000000000) = true from decide_eq_true hin)
            clear hin hnx hbad
            go_wp2_with fail
            refine (isWithin_is _ _ _ _ (by omega) (by omega) HDD.out).mono ?_; rintro e w2 ⟨rfl, rfl⟩
            go_wp2_with fail
            go_roundw
            case rel => exact ⟨k + 1, by omega, by go_num, HM.out, HX, HB2.out⟩
            case measure => simp [intOf]; omega
          · exact ⟨false, false, false, false, false, false, false, false, false, false, by simp, rfl, rfl, ⟨fun _ => (Below.refl _ _).drew, fun e => (by cases e)⟩⟩
          · rintro listed ac w' i oi ⟨b0, b1, b2, b3, b4, b5, b6, b7, b8, b9, ⟨e3, e6, e7, e8, e9⟩, rfl, rfl, hR⟩ ho hun hdep
            have hi : i < 10 := by simpa using (Array.getElem?_eq_some_iff.1 ho).1
            obtain rfl | rfl | rfl | rfl | rfl | rfl | rfl | rfl | rfl | rfl : i = 0 ∨ i = 1 ∨ i = 2 ∨ i = 3 ∨ i = 4 ∨ i = 5 ∨ i = 6 ∨ i = 7 ∨ i = 8 ∨ i = 9 := by omega
            · -- 0
              simp only [List.getElem?_toArray, List.getElem?_cons_zero, Option.some.injEq] at ho
              subst ho
              have hbi : b0 = false := by simpa using hun
              subst hbi
              obtain rfl : b9 = false := Bool.eq_false_iff.2 (fun h => Bool.noConfusion (e9 h).1)
              refine wpOpIn_step rfl (fun K hK => ?_)
              clear hun hdep hi
              go_simp
              refine hK _ _ ⟨true, b1, b2, b3, b4, b5, b6, b7, b8, false, ⟨e3, e6, e7, e8, fun h => Bool.noConfusion h⟩, rfl, rfl, hR⟩
            · -- 1
              simp only [List.getElem?_toArray, List.getElem?_cons_succ, List.getElem?_cons_zero, Option.some.injEq] at ho
              subst ho
              have hbi : b1 = false := by simpa using hun
              subst hbi
              obtain rfl : b9 = false := Bool.eq_false_iff.2 (fun h => Bool.noConfusion (e9 h).2.1)
              refine wpOpIn_step rfl (fun K hK => ?_)
              clear hun hdep hi
              have t0 := ((hR.low rfl).cell (p := ⟨P, 0, none⟩) hPW).trans z0
              have t1 := ((hR.low rfl).cell (p := ⟨P, 1, none⟩) hPW).trans z1
              go_simp
              refine hK _ _ ⟨b0, true, b2, b3, b4, b5, b6, b7, b8, false, ⟨e3, e6, e7, e8, fun h => Bool.noConfusion h⟩, rfl, rfl, hR⟩
            · -- 2
              simp only [List.getElem?_toArray, List.getElem?_cons_succ, List.getElem?_cons_zero, Option.some.injEq] at ho
              subst ho
              have hbi : b2 = false := by simpa using hun
              subst hbi
              obtain rfl : b3 = false := Bool.eq_false_iff.2 (fun h => Bool.noConfusion (e3 h))
              obtain rfl : b8 = false := Bool.eq_false_iff.2 (fun h => Bool.noConfusion (e8 h).1)
              obtain rfl : b9 = false := Bool.eq_false_iff.2 (fun h => Bool.noConfusion (e9 h).2.2)
              refine wpOpIn_step rfl (fun K hK => ?_)
              clear hun hdep hi
              go_simp
              refine hK _ _ ⟨b0, b1, true, false, b4, b5, b6, b7, false, false, ⟨fun h => Bool.noConfusion h, e6, e7, fun h => Bool.noConfusion h, fun h => Bool.noConfusion h⟩, rfl, rfl, hR⟩
            · -- 3
              simp only [List.getElem?_toArray, List.getElem?_cons_succ, List.getElem?_cons_zero, Option.some.injEq] at ho
              subst ho
              have hbi : b3 = false := by simpa using hun
              subst hbi
              have hd2 : b2 = true := by have := hdep ⟨2, .data⟩ (by simp) rfl; simpa using this
              subst hd2
              obtain rfl : b8 = false := Bool.eq_false_iff.2 (fun h => Bool.noConfusion (e8 h).1)
              obtain rfl : b9 = false := Bool.eq_false_iff.2 (fun h => Bool.noConfusion (e9 h).2.2)
              refine wpOpIn_step rfl (fun K hK => ?_)
              clear hun hdep hi
              have t0 := ((hR.low rfl).cell (p := ⟨P, 0, none⟩) hPW).trans z0
              go_simp
              refine hK _ _ ⟨b0, b1, true, true, b4, b5, b6, b7, false, false, ⟨fun _ => rfl, e6, e7, fun h => Bool.noConfusion h, fun h => Bool.noConfusion h⟩, rfl, rfl, hR⟩
            · -- 4
              simp only [List.getElem?_toArray, List.getElem?_cons_succ, List.getElem?_cons_zero, Option.some.injEq] at ho
              subst ho
              have hbi : b4 = false := by simpa using hun
              subst hbi
              obtain rfl : b7 = false := Bool.eq_false_iff.2 (fun h => Bool.noConfusion (e7 h).1)
              obtain rfl : b8 = false := Bool.eq_false_iff.2 (fun h => Bool.noConfusion (e8 h).2)
              obtain rfl : b9 = false := Bool.eq_false_iff.2 (fun h => Bool.noConfusion (e9 h).2.2)
              refine wpOpIn_step rfl (fun K hK => ?_)
              clear hun hdep hi
              go_simp
              refine hK _ _ ⟨b0, b1, b2, b3, true, b5, b6, false, false, false, ⟨e3, e6, fun h => Bool.noConfusion h, fun h => Bool.noConfusion h, fun h => Bool.noConfusion h⟩, rfl, rfl, hR⟩
            · -- 5
              simp only [List.getElem?_toArray, List.getElem?_cons_succ, List.getElem?_cons_zero, Option.some.injEq] at ho
              subst ho
              have hbi : b5 = false := by simpa using hun
              subst hbi
              obtain rfl : b6 = false := Bool.eq_false_iff.2 (fun h => Bool.noConfusion (e6 h))
              obtain rfl : b7 = false := Bool.eq_false_iff.2 (fun h => Bool.noConfusion (e7 h).2)
              obtain rfl : b8 = false := Bool.eq_false_iff.2 (fun h => Bool.noConfusion (e8 h).2)
              obtain rfl : b9 = false := Bool.eq_false_iff.2 (fun h => Bool.noConfusion (e9 h).2.2)
              refine wpOpIn_step rfl (fun K hK => ?_)
              clear hun hdep hi
              go_simp
              refine hK _ _ ⟨b0, b1, b2, b3, b4, true, false, false, false, false, ⟨e3, fun h => Bool.noConfusion h, fun h => Bool.noConfusion h, fun h => Bool.noConfusion h, fun h => Bool.noConfusion h⟩, rfl, rfl, hR⟩
            · -- 6
              simp only [List.getElem?_toArray, List.getElem?_cons_succ, List.getElem?_cons_zero, Option.some.injEq] at ho
              subst ho
              have hbi : b6 = false := by simpa using hun
              subst hbi
              have hd5 : b5 = true := by have := hdep ⟨5, .data⟩ (by simp) rfl; simpa using this
              subst hd5
              obtain rfl : b7 = false := Bool.eq_false_iff.2 (fun h => Bool.noConfusion (e7 h).2)
              obtain rfl : b8 = false := Bool.eq_false_iff.2 (fun h => Bool.noConfusion (e8 h).2)
              obtain rfl : b9 = false := Bool.eq_false_iff.2 (fun h => Bool.noConfusion (e9 h).2.2)
              refine wpOpIn_step rfl (fun K hK => ?_)
              clear hun hdep hi
              have t1 := ((hR.low rfl).cell (p := ⟨P, 1, none⟩) hPW).trans z1
              go_simp
              refine hK _ _ ⟨b0, b1, b2, b3, b4, true, true, false, false, false, ⟨e3, fun _ => rfl, fun h => Bool.noConfusion h, fun h => Bool.noConfusion h, fun h => Bool.noConfusion h⟩, rfl, rfl, hR⟩
            · -- 7
              simp only [List.getElem?_toArray, List.getElem?_cons_succ, List.getElem?_cons_zero, Option.some.injEq] at ho
              subst ho
              have hbi : b7 = false := by simpa using hun
              subst hbi
              have hd4 : b4 = true := by have := hdep ⟨4, .data⟩ (by simp) rfl; simpa using this
              have hd6 : b6 = true := by have := hdep ⟨6, .data⟩ (by simp) rfl; simpa using this
              have hd5 : b5 = true := (e6 hd6)
              subst hd4 hd5 hd6
              obtain rfl : b8 = false := Bool.eq_false_iff.2 (fun h => Bool.noConfusion (e8 h).2)
              obtain rfl : b9 = false := Bool.eq_false_iff.2 (fun h => Bool.noConfusion (e9 h).2.2)
              refine wpOpIn_step rfl (fun K hK => ?_)
              clear hun hdep hi
              go_simp
              refine hK _ _ ⟨b0, b1, b2, b3, true, true, true, true, false, false, ⟨e3, fun _ => rfl, fun _ => ⟨rfl, rfl⟩, fun h => Bool.noConfusion h, fun h => Bool.noConfusion h⟩, rfl, rfl, hR⟩
            · -- 8
              simp only [List.getElem?_toArray, List.getElem?_cons_succ, List.getElem?_cons_zero, Option.some.injEq] at ho
              subst ho
              have hbi : b8 = false := by simpa using hun
              subst hbi
              have hd3 : b3 = true := by have := hdep ⟨3, .data⟩ (by simp) rfl; simpa using this
              have hd7 : b7 = true := by have := hdep ⟨7, .data⟩ (by simp) rfl; simpa using this
              have hd6 : b6 = true := (e7 hd7).2
              have hd5 : b5 = true := (e6 hd6)
              have hd4 : b4 = true := (e7 hd7).1
              have hd2 : b2 = true := (e3 hd3)
              subst hd2 hd3 hd4 hd5 hd6 hd7
              obtain rfl : b9 = false := Bool.eq_false_iff.2 (fun h => Bool.noConfusion (e9 h).2.2)
              refine wpOpIn_step rfl (fun K hK => ?_)
              clear hun hdep hi
              go_simp
              refine hK _ _ ⟨b0, b1, true, true, true, true, true, true, true, false, ⟨fun _ => rfl, fun _ => rfl, fun _ => ⟨rfl, rfl⟩, fun _ => ⟨rfl, rfl⟩, fun h => Bool.noConfusion h⟩, rfl, rfl, hR⟩
            · -- 9
              simp only [List.getElem?_toArray, List.getElem?_cons_succ, List.getElem?_cons_zero, Option.some.injEq] at ho
              subst ho
              have hbi : b9 = false := by simpa using hun
              subst hbi
              have hd0 : b0 = true := by have := hdep ⟨0, .data⟩ (by simp) rfl; simpa using this
              have hd1 : b1 = true := by have := hdep ⟨1, .data⟩ (by simp) rfl; simpa using this
              have hd8 : b8 = true := by have := hdep ⟨8, .data⟩ (by simp) rfl; simpa using this
              have hd7 : b7 = true := (e8 hd8).2
              have hd6 : b6 = true := (e7 hd7).2
              have hd5 : b5 = true := (e6 hd6)
              have hd4 : b4 = true := (e7 hd7).1
              have hd3 : b3 = true := (e8 hd8).1
              have hd2 : b2 = true := (e3 hd3)
              subst hd0 hd1 hd2 hd3 hd4 hd5 hd6 hd7 hd8
              refine wpOpIn_step rfl (fun K hK => ?_)
              clear hun hdep hi
              obtain ⟨w2, hrun, hm2, hg2⟩ := HPUT.out w' (HAL.out.trans ((hR.low rfl).mono HAL.out.size))
              go_simp
              refine hK _ _ ⟨true, true, true, true, true, true, true, true, true, true, ⟨fun _ => rfl, fun _ => rfl, fun _ => ⟨rfl, rfl⟩, fun _ => ⟨rfl, rfl⟩, fun _ => ⟨rfl, rfl, rfl⟩⟩, rfl, rfl, hR.put_ HSN.out hm2 hg2⟩
        · obtain rfl : k = xs.length := by omega
          have hok : Hid (numsOk y xs = true) := (HIF.out y).2 hgood.out
          rw [List.take_length] at hM
          have HY := Lib.hid (HYES.out y HD.out hok.out B wr hM (by omega) (HB1.out.trans (hB.mono hzr)))
          clear hM hB hgood
          go_wp2_with fail
          exact HY.out
end Go.Proofs.Ytkdgnegnndedaaa.PW
