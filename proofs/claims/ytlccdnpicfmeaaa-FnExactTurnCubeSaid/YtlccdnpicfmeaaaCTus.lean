/-
  Walks: an orientation turned by a set, in the model.
-/
import Derived.Test.YtlccdnpicfmeaaaCSpc
namespace Go.Proofs.Ytlccdnpicfmeaaa.PW
open Go.RowKit Go.Proofs.Ytlccdnpicfmeaaa
open Go.Proofs.Ytlccdnpicfmeaaa.PM

set_option maxRecDepth 100000 in
set_option maxHeartbeats 4000000 in
theorem specTurnCube_any (D : Int) (q : Value) (O : List Int) (s : Int) (w : World) (hq : Ints w q O) :
    Calls Try.prog 48 #[.agg #[.int .i64 D, q], .int .i64 s] w (OutC w (turOut D O s)) := by
  have HCK := Lib.hid (fun w' v (h : Below w.heap.size w w') (hv : Cel w' v [s]) => l06Code_any D q v O [s] w' (hq.below h) hv (by simp))
  by_cases hcd : cdOut D O [s] = 0
  case neg =>
    rw [turOut_no hcd]
    generalize cdOut D O [s] = A at *
    obtain ⟨a, cap, rfl, _⟩ := hq
    have hab : (A != 0) = true := by simpa using hcd
    clear hcd
    go_enter Try.func48, Try.ntmps48
    go_wp2_with fail
    refine (HCK.out _ _ (by (repeat' (first | (with_reducible exact Below.refl _ _) | (with_reducible assumption) | (with_reducible refine Below.alloc ?_ ?_ _) | (with_reducible refine Below.drew ?_) | (with_reducible refine below_drewN ?_ _) | (with_reducible refine Below.setCell ?_ ?_ _) | (with_reducible refine Below.trans ?_ (Below.mono (by with_reducible assumption) ?_)) | (with_reducible exact Below.size (by with_reducible assumption)) | go_size))) (cel_one _ _ _ _ (by simp))).mono ?_
    rintro e w1 ⟨rfl, hb1⟩
    have hw1 : Below w.heap.size w w1 := by (repeat' (first | (with_reducible exact Below.refl _ _) | (with_reducible assumption) | (with_reducible refine Below.alloc ?_ ?_ _) | (with_reducible refine Below.drew ?_) | (with_reducible refine below_drewN ?_ _) | (with_reducible refine Below.setCell ?_ ?_ _) | (with_reducible refine Below.trans ?_ (Below.mono (by with_reducible assumption) ?_)) | (with_reducible exact Below.size (by with_reducible assumption)) | go_size))
    obtain ⟨hc_hb1, hf_hb1⟩ := bcell hb1; obtain ⟨hcA_hb1, hfA_hb1⟩ := bcellG (W0 := w) hb1 (by (repeat' (first | (with_reducible exact Below.refl _ _) | (with_reducible assumption) | (with_reducible refine Below.alloc ?_ ?_ _) | (with_reducible refine Below.drew ?_) | (with_reducible refine below_drewN ?_ _) | (with_reducible refine Below.setCell ?_ ?_ _) | (with_reducible refine Below.trans ?_ (Below.mono (by with_reducible assumption) ?_)) | (with_reducible exact Below.size (by with_reducible assumption)) | go_size))); have hz_hb1 := hb1.size; (try simp at hz_hb1); (try simp only [Nat.add_one_le_iff] at hz_hb1); have hz0_hb1 : w.heap.size < w1.heap.size := (by omega); have hz1_hb1 : w.heap.size + 1 < w1.heap.size := (by omega)
    clear HCK
    go_wp2_with fail
    refine bodyPost_ret (v := .tuple #[.agg #[.int .i64 0, .slice none 0 0], .int .i64 A]) (by simp [*, results, Try.results48, go_sem]) rfl ?_
    exact outC_err ((hw1.setCell (by simp) _).setCell (by simp) _)
  obtain ⟨n, rfl, hc, hn1, hn5, hl, hl2, hs0, hs1, hs2⟩ := ones_cb hcd
  rw [turOut_ok hcd]
  rw [hcd] at HCK
  clear hcd
  have hT := pow_le_32 hn5
  obtain ⟨j0, hj, hyy0, hyy1, hyy2⟩ := info_parts info_int
  obtain ⟨b, off, cap, rfl, hb, hcell⟩ := Ints.at_ hq (by omega)
  have HC := Lib.hid hcell
  have hmx : Try.prog.follows .mixedOrders = true := by kernel_rfl
  obtain ⟨F, hF⟩ : ∃ F : Nat → Int, F = fun j => O.getD (j ^^^ s.toNat) 0 := ⟨_, rfl⟩
  have HR : Hid ((List.range O.length).map F = turL O s) := by show _ = _; rw [hF]; rfl
  have HFA := Lib.hid (show ∀ j, F j = O.getD (j ^^^ s.toNat) 0 from fun j => by rw [hF])
  have HXX := Lib.hid (show ∀ k : Nat, k < O.length → bits BinOp.xor IntKind.i64 (k : Int) s = ((k ^^^ s.toNat : Nat) : Int) ∧ k ^^^ s.toNat < O.length from fun k hk => ⟨by
    have h1 : s = ((s.toNat : Nat) : Int) := by omega
    rw [h1, xb_nat k s.toNat (by omega) (by omega)]
    rfl, by rw [hl]; exact Nat.xor_lt_two_pow (by omega) hs2⟩)
  have hl32 : O.length ≤ 32 := by omega
  clear hs0 hs1 hs2 hl hl2 hc hq hcell hT hn1 hn5 hF
  go_enter Try.func48, Try.ntmps48
  go_wp2_with fail
  refine (HCK.out _ _ (by (repeat' (first | (with_reducible exact Below.refl _ _) | (with_reducible assumption) | (with_reducible refine Below.alloc ?_ ?_ _) | (with_reducible refine Below.drew ?_) | (with_reducible refine below_drewN ?_ _) | (with_reducible refine Below.setCell ?_ ?_ _) | (with_reducible refine Below.trans ?_ (Below.mono (by with_reducible assumption) ?_)) | (with_reducible exact Below.size (by with_reducible assumption)) | go_size))) (cel_one _ _ _ _ (by simp))).mono ?_
  rintro e w1 ⟨rfl, hb1⟩
  have hw1 : Below w.heap.size w w1 := by (repeat' (first | (with_reducible exact Below.refl _ _) | (with_reducible assumption) | (with_reducible refine Below.alloc ?_ ?_ _) | (with_reducible refine Below.drew ?_) | (with_reducible refine below_drewN ?_ _) | (with_reducible refine Below.setCell ?_ ?_ _) | (with_reducible refine Below.trans ?_ (Below.mono (by with_reducible assumption) ?_)) | (with_reducible exact Below.size (by with_reducible assumption)) | go_size))
  obtain ⟨hc_hb1, hf_hb1⟩ := bcell hb1; obtain ⟨hcA_hb1, hfA_hb1⟩ := bcellG (W0 := w) hb1 (by (repeat' (first | (with_reducible exact Below.refl _ _) | (with_reducible assumption) | (with_reducible refine Below.alloc ?_ ?_ _) | (with_reducible refine Below.drew ?_) | (with_reducible refine below_drewN ?_ _) | (with_reducible refine Below.setCell ?_ ?_ _) | (with_reducible refine Below.trans ?_ (Below.mono (by with_reducible assumption) ?_)) | (with_reducible exact Below.size (by with_reducible assumption)) | go_size))); have hz_hb1 := hb1.size; (try simp at hz_hb1); (try simp only [Nat.add_one_le_iff] at hz_hb1); have hz0_hb1 : w.heap.size < w1.heap.size := (by omega); have hz1_hb1 : w.heap.size + 1 < w1.heap.size := (by omega)
  have HW1 := Lib.hid hw1
  clear HCK hw1
  go_wp2_with fail
  have HK := Lib.hid (fun wr (h : Below w1.heap.size w1 wr) => show wr.cell? ⟨w.heap.size, 0, none⟩ = some (.int .i64 n) ∧ wr.cell? ⟨w.heap.size, 1, none⟩ = some (.slice (some ⟨b, off, none⟩) O.length cap) ∧ wr.cell? ⟨w.heap.size + 1, 0, none⟩ = some (.int .i64 0) ∧ wr.cell? ⟨w.heap.size + 1, 1, none⟩ = some (.slice none 0 0) ∧ (∀ o, wr.frozen? ⟨w.heap.size + 1, o, none⟩ = false) from
    ⟨(h.cell (p := ⟨w.heap.size, 0, none⟩) (by show w.heap.size < _; omega)).trans ((hc_hb1 _ _ (by simp; omega)).trans (cell_alloc3 _ _ _ _ _ _)), (h.cell (p := ⟨w.heap.size, 1, none⟩) (by show w.heap.size < _; omega)).trans ((hc_hb1 _ _ (by simp; omega)).trans (cell_alloc3 _ _ _ _ _ _)),
      (h.cell (p := ⟨w.heap.size + 1, 0, none⟩) (by show w.heap.size + 1 < _; omega)).trans ((hc_hb1 _ _ (by simp)).trans (by simp [go_sem])), (h.cell (p := ⟨w.heap.size + 1, 1, none⟩) (by show w.heap.size + 1 < _; omega)).trans ((hc_hb1 _ _ (by simp)).trans (by simp [go_sem])),
      fun o => (h.frozen (p := ⟨w.heap.size + 1, o, none⟩) (by show w.heap.size + 1 < _; omega)).trans ((hf_hb1 _ _ (by simp)).trans (by simp [go_sem]))⟩)
  have HCC := Lib.hid (fun wr (h : Below w1.heap.size w1 wr) k (hk : k < O.length) => show wr.cell? ⟨b, off + k, none⟩ = some (.int .i64 (O.getD k 0)) from
    (h.cell (p := ⟨b, off + k, none⟩) (by show b < _; have := HW1.out.size; omega)).trans ((HW1.out.cell (p := ⟨b, off + k, none⟩) hb).trans (HC.out k hk)))
  have H0 := Lib.hid (CbO.start w1.heap.size w1 n 43 (Nat.le_refl _) w1 (Below.refl _ _))
  have hbw : b < w1.heap.size := by have := HW1.out.size; omega
  clear hc_hb1 hf_hb1 hcA_hb1 hfA_hb1 hb1 HC
  obtain ⟨P, hP⟩ : ∃ P, P = w1.heap.size + 1 := ⟨_, rfl⟩
  have hPlt : w1.heap.size < P := by omega
  obtain ⟨W0, hW0⟩ : ∃ W0, W0 = (w1.alloc (.cells #[] 2)).alloc (.cells #[.int .i64 n, .slice (some ⟨w1.heap.size, 0, none⟩) 0 0] 43) := ⟨_, rfl⟩
  rw [← hP, ← hW0] at H0 ⊢
  clear hP hW0
  go_loopw [8] (fun i wr => ∃ k g cp : Nat, k ≤ O.length ∧ i = .int .i64 k ∧ CbO w1.heap.size w1 wr P n g k cp ((List.range k).map F)) (fun i _ => O.length - (intOf i).toNat)
  case atStart => exact ⟨0, _, _, Nat.zero_le _, by go_num, H0.out⟩
  case round =>
    obtain ⟨k, g, cp, hk, rfl, hO⟩ := hrel
    have hB := hO.low
    obtain ⟨y0, y1, y2, y3, y4⟩ := HK.out wr hB
    have p0 := hO.c0
    have p1 := hO.c1
    have p2 := hO.fz
    have hzr := hB.size
    by_cases hlt : k < O.length
    · obtain ⟨hxk, hXlt⟩ := HXX.out k hlt
      have HX := Lib.hid (HFA.out k)
      generalize k ^^^ s.toNat = X at *
      have t1 := HCC.out wr hB X hXlt
      have HO := Lib.hid hO
      obtain ⟨y, hy⟩ : ∃ y, O.getD X 0 = y := ⟨_, rfl⟩
      rw [hy] at t1
      have HYF := Lib.hid (show (List.range k).map F ++ [y] = (List.range (k + 1)).map F by rw [List.range_succ, List.map_append, ← hy, ← HX.out]; rfl)
      have HOU := Lib.hid (fun W' (h : Below wr.heap.size wr W') => show W'.ownsRow 0 2 1 (.slice (some ⟨g, 0, none⟩) k cp) k (((List.range k).map F).map (Value.int .i64)) by
        have := ((hO.own.below h).owns)
        simpa using this)
      have hgP := hO.ne
      have hPW := hO.pb.2
      have hX63 : (X : Int) ≤ 9223372036854775807 := by omega
      clear hO hB hy
      go_wp2_with fail
      obtain ⟨W, rfl⟩ : ∃ W, W = wr := ⟨_, rfl⟩
      rename_i K0 hK0
      refine (wpIn_wide (n := 8)).1 ?_
      have hsW : w.heap.size < W.heap.size := by omega
      have hbW : b < W.heap.size := by omega
      refine PR.wpIn_region_inv hmx (by kernel_rfl) (fun listed ac w' =>
          ∃ (b0 b1 b2 b3 b4 b5 b6 b7 b8 b9 b10 b11 b12 : Bool) (v' : Value) (hb : Nat), ((b1 = true → b0 = true) ∧ (b3 = true → b2 = true) ∧ (b6 = true → b4 = true ∧ b5 = true) ∧ (b7 = true → b3 = true ∧ b6 = true) ∧ (b8 = true → b7 = true) ∧ (b9 = true → b8 = true) ∧ (b10 = true → b1 = true ∧ b9 = true) ∧ (b12 = true → b11 = true ∧ b10 = true)) ∧ listed = #[b0, b1, b2, b3, b4, b5, b6, b7, b8, b9, b10, b11, b12] ∧
            ac = { tmps := #[.agg #[.int .i64 n, .slice (some ⟨b, off, none⟩) O.length cap], .int .i64 s, .pointer (some ⟨w.heap.size, 0, none⟩), undef, .pointer (some ⟨w.heap.size + 1, 0, none⟩), .int .i64 0, .int .i64 0, .pointer (some ⟨P, 0, none⟩), .int .i64 k, .agg #[.int .i64 n, .slice (some ⟨b, off, none⟩) O.length cap], .int .i64 s, .slice (some ⟨w.heap.size + 1 + 1, 0, none⟩) 1 1, .int .i64 0, .int .i64 0, .bool false, undef, undef, .pointer (some ⟨w.heap.size, 0, none⟩), .int .i64 n, .slice (some ⟨w1.heap.size, 0, none⟩) 0 0, .agg #[.int .i64 n, .slice (some ⟨w1.heap.size, 0, none⟩) 0 0], .int .i64 k, .pointer (some ⟨w.heap.size, 1, none⟩), .slice (some ⟨b, off, none⟩) O.length cap, .int .i64 O.length, .bool true, u26, u27, cond b0 (.pointer (some ⟨P, 1, none⟩)) (u28), cond b1 (.slice (some ⟨g, 0, none⟩) k cp) (u29), cond b2 (.pointer (some ⟨w.heap.size, 1, none⟩)) (u30), cond b3 (.slice (some ⟨b, off, none⟩) O.length cap) (u31), cond b4 (.int .i64 k) (u32), cond b5 (.int .i64 s) (u33), cond b6 (.int .i64 X) (u34), cond b7 (.pointer (some ⟨b, off + X, none⟩)) (u35), cond b8 (.int .i64 y) (u36), cond b9 (.slice (some ⟨hb, 0, none⟩) 1 1) (u37), cond b10 (v') (u38), cond b11 (.pointer (some ⟨P, 1, none⟩)) (u39), undef], defers := [] } ∧ MsR W w' P (.slice (some ⟨g, 0, none⟩) k cp) k ((List.range k).map F) y v' hb b9 b10 b12) ?_ ?_ ?_ ?_
      · rintro listed ac w' ⟨b0, b1, b2, b3, b4, b5, b6, b7, b8, b9, b10, b11, b12, v', hb, _, rfl, _⟩
        rfl
      · rintro listed ac w' ⟨b0, b1, b2, b3, b4, b5, b6, b7, b8, b9, b10, b11, b12, v', hb, _, rfl, rfl, hR⟩ hall
        have h0 := hall 0 (by simp)
        have h1 := hall 1 (by simp)
        have h2 := hall 2 (by simp)
        have h3 := hall 3 (by simp)
        have h4 := hall 4 (by simp)
        have h5 := hall 5 (by simp)
        have h6 := hall 6 (by simp)
        have h7 := hall 7 (by simp)
        have h8 := hall 8 (by simp)
        have h9 := hall 9 (by simp)
        have h10 := hall 10 (by simp)
        have h11 := hall 11 (by simp)
        have h12 := hall 12 (by simp)
        simp at h0 h1 h2 h3 h4 h5 h6 h7 h8 h9 h10 h11 h12
        subst h0 h1 h2 h3 h4 h5 h6 h7 h8 h9 h10 h11 h12
        clear hall
        refine hK0 _ _ ?_
        simp only [cond_true]
        obtain ⟨w3', w4', g2, cap2, rfl, hl3', hown, hgr, hat, hgl, h6'⟩ := hR.app rfl
        simp only [cond_true] at h6'
        have hN := HO.out.next (by simp) hl3' hown hgr hat hgl
        rw [← h6', HYF.out] at hN
        have HN := Lib.hid hN
        clear hR hN hown hgr hat hgl hl3' h6' p0 p1 p2 y0 y1 y2 y3 y4 t1
        go_wp2_with fail
        go_roundw
        case rel => exact ⟨k + 1, g2, cap2, by omega, by go_num, HN.out⟩
        case measure => simp [intOf]; omega
      · exact ⟨false, false, false, false, false, false, false, false, false, false, false, false, false, undef, 0, by simp, rfl, rfl, ⟨fun _ => (Below.refl _ _).drew, fun e => (by cases e), fun e => (by cases e)⟩⟩
      · rintro listed ac w' i oi ⟨b0, b1, b2, b3, b4, b5, b6, b7, b8, b9, b10, b11, b12, v', hb, ⟨e1, e3, e6, e7, e8, e9, e10, e12⟩, rfl, rfl, hR⟩ ho hun hdep
        have hi : i < 13 := by simpa using (Array.getElem?_eq_some_iff.1 ho).1
        obtain rfl | rfl | rfl | rfl | rfl | rfl | rfl | rfl | rfl | rfl | rfl | rfl | rfl : i = 0 ∨ i = 1 ∨ i = 2 ∨ i = 3 ∨ i = 4 ∨ i = 5 ∨ i = 6 ∨ i = 7 ∨ i = 8 ∨ i = 9 ∨ i = 10 ∨ i = 11 ∨ i = 12 := by omega
        · -- 0
          simp only [List.getElem?_toArray, List.getElem?_cons_zero, Option.some.injEq] at ho
          subst ho
          have hbi : b0 = false := by simpa using hun
          subst hbi
          obtain rfl : b1 = false := Bool.eq_false_iff.2 (fun h => Bool.noConfusion (e1 h))
          obtain rfl : b10 = false := Bool.eq_false_iff.2 (fun h => Bool.noConfusion (e10 h).1)
          obtain rfl : b12 = false := Bool.eq_false_iff.2 (fun h => Bool.noConfusion (e12 h).2)
          refine wpOpIn_step rfl (fun K hK => ?_)
          clear hun hdep hi
          go_simp
          refine hK _ _ ⟨true, false, b2, b3, b4, b5, b6, b7, b8, b9, false, b11, false, v', hb, ⟨fun h => Bool.noConfusion h, e3, e6, e7, e8, e9, fun h => Bool.noConfusion h, fun h => Bool.noConfusion h⟩, rfl, rfl, hR⟩
        · -- 1
          simp only [List.getElem?_toArray, List.getElem?_cons_succ, List.getElem?_cons_zero, Option.some.injEq] at ho
          subst ho
          have hbi : b1 = false := by simpa using hun
          subst hbi
          have hd0 : b0 = true := by have := hdep ⟨0, .data⟩ (by simp) rfl; simpa using this
          subst hd0
          obtain rfl : b10 = false := Bool.eq_false_iff.2 (fun h => Bool.noConfusion (e10 h).1)
          obtain rfl : b12 = false := Bool.eq_false_iff.2 (fun h => Bool.noConfusion (e12 h).2)
          refine wpOpIn_step rfl (fun K hK => ?_)
          clear hun hdep hi
          have q0 := ((hR.low rfl).cell (p := ⟨P, 1, none⟩) hPW).trans p1
          go_simp
          refine hK _ _ ⟨true, true, b2, b3, b4, b5, b6, b7, b8, b9, false, b11, false, v', hb, ⟨fun _ => rfl, e3, e6, e7, e8, e9, fun h => Bool.noConfusion h, fun h => Bool.noConfusion h⟩, rfl, rfl, hR⟩
        · -- 2
          simp only [List.getElem?_toArray, List.getElem?_cons_succ, List.getElem?_cons_zero, Option.some.injEq] at ho
          subst ho
          have hbi : b2 = false := by simpa using hun
          subst hbi
          obtain rfl : b3 = false := Bool.eq_false_iff.2 (fun h => Bool.noConfusion (e3 h))
          obtain rfl : b7 = false := Bool.eq_false_iff.2 (fun h => Bool.noConfusion (e7 h).1)
          obtain rfl : b8 = false := Bool.eq_false_iff.2 (fun h => Bool.noConfusion (e8 h))
          obtain rfl : b9 = false := Bool.eq_false_iff.2 (fun h => Bool.noConfusion (e9 h))
          obtain rfl : b10 = false := Bool.eq_false_iff.2 (fun h => Bool.noConfusion (e10 h).2)
          obtain rfl : b12 = false := Bool.eq_false_iff.2 (fun h => Bool.noConfusion (e12 h).2)
          refine wpOpIn_step rfl (fun K hK => ?_)
          clear hun hdep hi
          go_simp
          refine hK _ _ ⟨b0, b1, true, false, b4, b5, b6, false, false, false, false, b11, false, v', hb, ⟨e1, fun h => Bool.noConfusion h, e6, fun h => Bool.noConfusion h, fun h => Bool.noConfusion h, fun h => Bool.noConfusion h, fun h => Bool.noConfusion h, fun h => Bool.noConfusion h⟩, rfl, rfl, hR⟩
        · -- 3
          simp only [List.getElem?_toArray, List.getElem?_cons_succ, List.getElem?_cons_zero, Option.some.injEq] at ho
          subst ho
          have hbi : b3 = false := by simpa using hun
          subst hbi
          have hd2 : b2 = true := by have := hdep ⟨2, .data⟩ (by simp) rfl; simpa using this
          subst hd2
          obtain rfl : b7 = false := Bool.eq_false_iff.2 (fun h => Bool.noConfusion (e7 h).1)
          obtain rfl : b8 = false := Bool.eq_false_iff.2 (fun h => Bool.noConfusion (e8 h))
          obtain rfl : b9 = false := Bool.eq_false_iff.2 (fun h => Bool.noConfusion (e9 h))
          obtain rfl : b10 = false := Bool.eq_false_iff.2 (fun h => Bool.noConfusion (e10 h).2)
          obtain rfl : b12 = false := Bool.eq_false_iff.2 (fun h => Bool.noConfusion (e12 h).2)
          refine wpOpIn_step rfl (fun K hK => ?_)
          clear hun hdep hi
          have q0 := ((hR.low rfl).cell (p := ⟨w.heap.size, 1, none⟩) hsW).trans y1
          go_simp
          refine hK _ _ ⟨b0, b1, true, true, b4, b5, b6, false, false, false, false, b11, false, v', hb, ⟨e1, fun _ => rfl, e6, fun h => Bool.noConfusion h, fun h => Bool.noConfusion h, fun h => Bool.noConfusion h, fun h => Bool.noConfusion h, fun h => Bool.noConfusion h⟩, rfl, rfl, hR⟩
        · -- 4
          simp only [List.getElem?_toArray, List.getElem?_cons_succ, List.getElem?_cons_zero, Option.some.injEq] at ho
          subst ho
          have hbi : b4 = false := by simpa using hun
          subst hbi
          obtain rfl : b6 = false := Bool.eq_false_iff.2 (fun h => Bool.noConfusion (e6 h).1)
          obtain rfl : b7 = false := Bool.eq_false_iff.2 (fun h => Bool.noConfusion (e7 h).2)
          obtain rfl : b8 = false := Bool.eq_false_iff.2 (fun h => Bool.noConfusion (e8 h))
          obtain rfl : b9 = false := Bool.eq_false_iff.2 (fun h => Bool.noConfusion (e9 h))
          obtain rfl : b10 = false := Bool.eq_false_iff.2 (fun h => Bool.noConfusion (e10 h).2)
          obtain rfl : b12 = false := Bool.eq_false_iff.2 (fun h => Bool.noConfusion (e12 h).2)
          refine wpOpIn_step rfl (fun K hK => ?_)
          clear hun hdep hi
          go_simp
          refine hK _ _ ⟨b0, b1, b2, b3, true, b5, false, false, false, false, false, b11, false, v', hb, ⟨e1, e3, fun h => Bool.noConfusion h, fun h => Bool.noConfusion h, fun h => Bool.noConfusion h, fun h => Bool.noConfusion h, fun h => Bool.noConfusion h, fun h => Bool.noConfusion h⟩, rfl, rfl, hR⟩
        · -- 5
          simp only [List.getElem?_toArray, List.getElem?_cons_succ, List.getElem?_cons_zero, Option.some.injEq] at ho
          subst ho
          have hbi : b5 = false := by simpa using hun
          subst hbi
          obtain rfl : b6 = false := Bool.eq_false_iff.2 (fun h => Bool.noConfusion (e6 h).2)
          obtain rfl : b7 = false := Bool.eq_false_iff.2 (fun h => Bool.noConfusion (e7 h).2)
          obtain rfl : b8 = false := Bool.eq_false_iff.2 (fun h => Bool.noConfusion (e8 h))
          obtain rfl : b9 = false := Bool.eq_false_iff.2 (fun h => Bool.noConfusion (e9 h))
          obtain rfl : b10 = false := Bool.eq_false_iff.2 (fun h => Bool.noConfusion (e10 h).2)
          obtain rfl : b12 = false := Bool.eq_false_iff.2 (fun h => Bool.noConfusion (e12 h).2)
          refine wpOpIn_step rfl (fun K hK => ?_)
          clear hun hdep hi
          go_simp
          refine hK _ _ ⟨b0, b1, b2, b3, b4, true, false, false, false, false, false, b11, false, v', hb, ⟨e1, e3, fun h => Bool.noConfusion h, fun h => Bool.noConfusion h, fun h => Bool.noConfusion h, fun h => Bool.noConfusion h, fun h => Bool.noConfusion h, fun h => Bool.noConfusion h⟩, rfl, rfl, hR⟩
        · -- 6
          simp only [List.getElem?_toArray, List.getElem?_cons_succ, List.getElem?_cons_zero, Option.some.injEq] at ho
          subst ho
          have hbi : b6 = false := by simpa using hun
          subst hbi
          have hd4 : b4 = true := by have := hdep ⟨4, .data⟩ (by simp) rfl; simpa using this
          have hd5 : b5 = true := by have := hdep ⟨5, .data⟩ (by simp) rfl; simpa using this
          subst hd4 hd5
          obtain rfl : b7 = false := Bool.eq_false_iff.2 (fun h => Bool.noConfusion (e7 h).2)
          obtain rfl : b8 = false := Bool.eq_false_iff.2 (fun h => Bool.noConfusion (e8 h))
          obtain rfl : b9 = false := Bool.eq_false_iff.2 (fun h => Bool.noConfusion (e9 h))
          obtain rfl : b10 = false := Bool.eq_false_iff.2 (fun h => Bool.noConfusion (e10 h).2)
          obtain rfl : b12 = false := Bool.eq_false_iff.2 (fun h => Bool.noConfusion (e12 h).2)
          refine wpOpIn_step rfl (fun K hK => ?_)
          clear hun hdep hi
          go_simp
          refine hK _ _ ⟨b0, b1, b2, b3, true, true, true, false, false, false, false, b11, false, v', hb, ⟨e1, e3, fun _ => ⟨rfl, rfl⟩, fun h => Bool.noConfusion h, fun h => Bool.noConfusion h, fun h => Bool.noConfusion h, fun h => Bool.noConfusion h, fun h => Bool.noConfusion h⟩, rfl, rfl, hR⟩
        · -- 7
          simp only [List.getElem?_toArray, List.getElem?_cons_succ, List.getElem?_cons_zero, Option.some.injEq] at ho
          subst ho
          have hbi : b7 = false := by simpa using hun
          subst hbi
          have hd3 : b3 = true := by have := hdep ⟨3, .data⟩ (by simp) rfl; simpa using this
          have hd6 : b6 = true := by have := hdep ⟨6, .data⟩ (by simp) rfl; simpa using this
          have hd5 : b5 = true := (e6 hd6).2
          have hd4 : b4 = true := (e6 hd6).1
          have hd2 : b2 = true := (e3 hd3)
          subst hd2 hd3 hd4 hd5 hd6
          obtain rfl : b8 = false := Bool.eq_false_iff.2 (fun h => Bool.noConfusion (e8 h))
          obtain rfl : b9 = false := Bool.eq_false_iff.2 (fun h => Bool.noConfusion (e9 h))
          obtain rfl : b10 = false := Bool.eq_false_iff.2 (fun h => Bool.noConfusion (e10 h).2)
          obtain rfl : b12 = false := Bool.eq_false_iff.2 (fun h => Bool.noConfusion (e12 h).2)
          refine wpOpIn_step rfl (fun K hK => ?_)
          clear hun hdep hi
          go_simp
          refine hK _ _ ⟨b0, b1, true, true, true, true, true, true, false, false, false, b11, false, v', hb, ⟨e1, fun _ => rfl, fun _ => ⟨rfl, rfl⟩, fun _ => ⟨rfl, rfl⟩, fun h => Bool.noConfusion h, fun h => Bool.noConfusion h, fun h => Bool.noConfusion h, fun h => Bool.noConfusion h⟩, rfl, rfl, hR⟩
        · -- 8
          simp only [List.getElem?_toArray, List.getElem?_cons_succ, List.getElem?_cons_zero, Option.some.injEq] at ho
          subst ho
          have hbi : b8 = false := by simpa using hun
          subst hbi
          have hd7 : b7 = true := by have := hdep ⟨7, .data⟩ (by simp) rfl; simpa using this
          have hd6 : b6 = true := (e7 hd7).2
          have hd5 : b5 = true := (e6 hd6).2
          have hd4 : b4 = true := (e6 hd6).1
          have hd3 : b3 = true := (e7 hd7).1
          have hd2 : b2 = true := (e3 hd3)
          subst hd2 hd3 hd4 hd5 hd6 hd7
          obtain rfl : b9 = false := Bool.eq_false_iff.2 (fun h => Bool.noConfusion (e9 h))
          obtain rfl : b10 = false := Bool.eq_false_iff.2 (fun h => Bool.noConfusion (e10 h).2)
          obtain rfl : b12 = false := Bool.eq_false_iff.2 (fun h => Bool.noConfusion (e12 h).2)
          refine wpOpIn_step rfl (fun K hK => ?_)
          clear hun hdep hi
          have q0 := ((hR.low rfl).cell (p := ⟨b, off + X, none⟩) hbW).trans t1
          go_simp
          refine hK _ _ ⟨b0, b1, true, true, true, true, true, true, true, false, false, b11, false, v', hb, ⟨e1, fun _ => rfl, fun _ => ⟨rfl, rfl⟩, fun _ => ⟨rfl, rfl⟩, fun _ => rfl, fun h => Bool.noConfusion h, fun h => Bool.noConfusion h, fun h => Bool.noConfusion h⟩, rfl, rfl, hR⟩
        · -- 9
          simp only [List.getElem?_toArray, List.getElem?_cons_succ, List.getElem?_cons_zero, Option.some.injEq] at ho
          subst ho
          have hbi : b9 = false := by simpa using hun
          subst hbi
          have hd8 : b8 = true := by have := hdep ⟨8, .data⟩ (by simp) rfl; simpa using this
          have hd7 : b7 = true := (e8 hd8)
          have hd6 : b6 = true := (e7 hd7).2
          have hd5 : b5 = true := (e6 hd6).2
          have hd4 : b4 = true := (e6 hd6).1
          have hd3 : b3 = true := (e7 hd7).1
          have hd2 : b2 = true := (e3 hd3)
          subst hd2 hd3 hd4 hd5 hd6 hd7 hd8
          obtain rfl : b10 = false := Bool.eq_false_iff.2 (fun h => Bool.noConfusion (e10 h).2)
          obtain rfl : b12 = false := Bool.eq_false_iff.2 (fun h => Bool.noConfusion (e12 h).2)
          refine wpOpIn_step rfl (fun K hK => ?_)
          clear hun hdep hi
          go_simp
          refine hK _ _ ⟨b0, b1, true, true, true, true, true, true, true, true, false, b11, false, v', w'.heap.size, ⟨e1, fun _ => rfl, fun _ => ⟨rfl, rfl⟩, fun _ => ⟨rfl, rfl⟩, fun _ => rfl, fun _ => rfl, fun h => Bool.noConfusion h, fun h => Bool.noConfusion h⟩, rfl, rfl, hR.box_⟩
        · -- 10
          simp only [List.getElem?_toArray, List.getElem?_cons_succ, List.getElem?_cons_zero, Option.some.injEq] at ho
          subst ho
          have hbi : b10 = false := by simpa using hun
          subst hbi
          have hd1 : b1 = true := by have := hdep ⟨1, .data⟩ (by simp) rfl; simpa using this
          have hd9 : b9 = true := by have := hdep ⟨9, .data⟩ (by simp) rfl; simpa using this
          have hd8 : b8 = true := (e9 hd9)
          have hd7 : b7 = true := (e8 hd8)
          have hd6 : b6 = true := (e7 hd7).2
          have hd5 : b5 = true := (e6 hd6).2
          have hd4 : b4 = true := (e6 hd6).1
          have hd3 : b3 = true := (e7 hd7).1
          have hd2 : b2 = true := (e3 hd3)
          have hd0 : b0 = true := (e1 hd1)
          subst hd0 hd1 hd2 hd3 hd4 hd5 hd6 hd7 hd8 hd9
          obtain rfl : b12 = false := Bool.eq_false_iff.2 (fun h => Bool.noConfusion (e12 h).2)
          refine wpOpIn_step rfl (fun K hK => ?_)
          clear hun hdep hi
          refine PR.stepIn_append_at _ rfl _ _ 23 rfl 0 2 j0 (.int .i64 0) 1 8 Try.underlying23 hj hyy0 hyy1 hyy2 rfl (by decide) (.slice (some ⟨g, 0, none⟩) k cp) k _ rfl (HOU.out _ (hR.low rfl)) ⟨hb, 0, none⟩ 1 1 [.int .i64 y] rfl rfl (news_one' (hR.box rfl rfl)) (by simp [Value.oneCell']) (by decide) (by unfold maxLen; omega) (by omega) (Nat.zero_le _) ?_
          intro g2 cap2 w'' hown hgrow hat hgl
          refine hK _ _ ⟨true, true, true, true, true, true, true, true, true, true, true, b11, false, (.slice (some ⟨g2, 0, none⟩) (k + 1) cap2), hb, ⟨fun _ => rfl, fun _ => rfl, fun _ => ⟨rfl, rfl⟩, fun _ => ⟨rfl, rfl⟩, fun _ => rfl, fun _ => rfl, fun _ => ⟨rfl, rfl⟩, fun h => Bool.noConfusion h⟩, rfl, rfl, hR.app_ hown hgrow hat hgl⟩
        · -- 11
          simp only [List.getElem?_toArray, List.getElem?_cons_succ, List.getElem?_cons_zero, Option.some.injEq] at ho
          subst ho
          have hbi : b11 = false := by simpa using hun
          subst hbi
          obtain rfl : b12 = false := Bool.eq_false_iff.2 (fun h => Bool.noConfusion (e12 h).1)
          refine wpOpIn_step rfl (fun K hK => ?_)
          clear hun hdep hi
          go_simp
          refine hK _ _ ⟨b0, b1, b2, b3, b4, b5, b6, b7, b8, b9, b10, true, false, v', hb, ⟨e1, e3, e6, e7, e8, e9, e10, fun h => Bool.noConfusion h⟩, rfl, rfl, hR⟩
        · -- 12
          simp only [List.getElem?_toArray, List.getElem?_cons_succ, List.getElem?_cons_zero, Option.some.injEq] at ho
          subst ho
          have hbi : b12 = false := by simpa using hun
          subst hbi
          have hd10 : b10 = true := by have := hdep ⟨10, .data⟩ (by simp) rfl; simpa using this
          have hd11 : b11 = true := by have := hdep ⟨11, .data⟩ (by simp) rfl; simpa using this
          have hd9 : b9 = true := (e10 hd10).2
          have hd8 : b8 = true := (e9 hd9)
          have hd7 : b7 = true := (e8 hd8)
          have hd6 : b6 = true := (e7 hd7).2
          have hd5 : b5 = true := (e6 hd6).2
          have hd4 : b4 = true := (e6 hd6).1
          have hd3 : b3 = true := (e7 hd7).1
          have hd2 : b2 = true := (e3 hd3)
          have hd1 : b1 = true := (e10 hd10).1
          have hd0 : b0 = true := (e1 hd1)
          subst hd0 hd1 hd2 hd3 hd4 hd5 hd6 hd7 hd8 hd9 hd10 hd11
          refine wpOpIn_step rfl (fun K hK => ?_)
          clear hun hdep hi
          obtain ⟨w3', w4', g2, cap2, rfl, hl3', _, hgr, _, _, h6'⟩ := hR.app rfl
          simp only [cond_false] at h6'
          subst h6'
          have hbl' := (hgr.block P (by have := hl3'.size; omega) (fun e => hgP (by simpa [Value.ownBlock] using e.symm))).trans (hl3'.block P hPW)
          have q0 := (World.cell?_of_block (w := W) (a := ⟨P, 1, none⟩) hbl').trans p1
          have q1 := (World.frozen?_of_block (w := W) (a := ⟨P, 1, none⟩) hbl').trans (p2 1)
          clear hbl' hl3' hgr
          go_simp
          refine hK _ _ ⟨true, true, true, true, true, true, true, true, true, true, true, true, true, (.slice (some ⟨g2, 0, none⟩) (k + 1) cap2), hb, ⟨fun _ => rfl, fun _ => rfl, fun _ => ⟨rfl, rfl⟩, fun _ => ⟨rfl, rfl⟩, fun _ => rfl, fun _ => rfl, fun _ => ⟨rfl, rfl⟩, fun _ => ⟨rfl, rfl⟩⟩, rfl, rfl, hR.store_⟩
    · obtain rfl : k = O.length := by omega
      have HO := Lib.hid hO
      clear hO hB hlt hk
      go_wp2_with fail
      refine bodyPost_ret (v := .tuple #[.agg #[.int .i64 n, .slice (some ⟨g, 0, none⟩) O.length cp], .int .i64 0]) (by simp [*, results, Try.results48, go_sem]) rfl ?_
      have ht : Tch [w.heap.size + 1] wr ((wr.setCell ⟨w.heap.size + 1, 0, none⟩ (.int .i64 n)).setCell ⟨w.heap.size + 1, 1, none⟩ (.slice (some ⟨g, 0, none⟩) O.length cp)) := ((Tch.refl _ _).setCell (by simp) _).setCell (by simp) _
      obtain ⟨g', c', hv, f1, f2, f3⟩ := HO.out.own
      simp only [Value.slice.injEq, Option.some.injEq, Addr.mk.injEq, and_true] at hv
      obtain ⟨rfl, _, rfl⟩ := hv
      rw [HR.out] at f3
      exact ⟨_, rfl, ⟨f3.tch ht (fun b hb c => by simp [Value.ownBlock] at hb c; omega), fun b hb => by simp [Value.ownBlock] at hb; subst hb; exact ⟨by omega, by simpa using f2⟩⟩, (HW1.out.trans (HO.out.low.mono HW1.out.size)).trans (ht.below (fun b hb => by simp at hb; omega))⟩
end Go.Proofs.Ytlccdnpicfmeaaa.PW
