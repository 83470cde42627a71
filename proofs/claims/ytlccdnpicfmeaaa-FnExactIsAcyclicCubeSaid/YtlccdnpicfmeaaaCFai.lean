/-
  Walks: the face of a vertex and a set of directions, in the program.
-/
import Derived.Test.YtlccdnpicfmeaaaCFac
namespace Go.Proofs.Ytlccdnpicfmeaaa.PW
open Go.RowKit Go.Proofs.Ytlccdnpicfmeaaa
open Go.Proofs.Ytlccdnpicfmeaaa.PM

theorem MsR.call_ {W w' w'' : World} {P L h : Nat} {u v' : Value} {S : List Int} {x : Int} (hR : MsR W w' P u L S x v' h false false false) (hb : Below w'.heap.size w' w'') : MsR W w'' P u L S x v' h false false false :=
  ⟨fun _ => (hR.low rfl).trans (hb.mono (hR.low rfl).size), fun e => (by cases e), fun e => (by cases e)⟩
set_option maxRecDepth 100000 in
set_option maxHeartbeats 4000000 in
theorem implFaceOf_any (D : Int) (q : Value) (O : List Int) (v d : Int) (w : World) (hq : Ints w q O) :
    Calls Try.prog 44 #[.agg #[.int .i64 D, q], .int .i64 v, .int .i64 d] w (OutC w (faOut D O v d)) := by
  have HCK := Lib.hid (fun w' u (h : Below w.heap.size w w') (hv : Cel w' u [v, d]) => checkCube_any D q u O [v, d] w' (hq.below h) hv (by simp))
  by_cases hcd : cdOut D O [v, d] = 0
  case neg =>
    rw [faOut_no hcd]
    generalize cdOut D O [v, d] = A at *
    obtain ⟨a, cap, rfl, _⟩ := hq
    have hab : (A != 0) = true := by simpa using hcd
    clear hcd
    go_enter Try.func44, Try.ntmps44
    go_wp2_with fail
    refine (HCK.out _ _ (by (repeat' (first | (with_reducible exact Below.refl _ _) | (with_reducible assumption) | (with_reducible refine Below.alloc ?_ ?_ _) | (with_reducible refine Below.drew ?_) | (with_reducible refine below_drewN ?_ _) | (with_reducible refine Below.setCell ?_ ?_ _) | (with_reducible refine Below.trans ?_ (Below.mono (by with_reducible assumption) ?_)) | (with_reducible exact Below.size (by with_reducible assumption)) | go_size))) (cel_two _ _ _ _ _ (by simp))).mono ?_
    rintro e w1 ⟨rfl, hb1⟩
    have hw1 : Below w.heap.size w w1 := by (repeat' (first | (with_reducible exact Below.refl _ _) | (with_reducible assumption) | (with_reducible refine Below.alloc ?_ ?_ _) | (with_reducible refine Below.drew ?_) | (with_reducible refine below_drewN ?_ _) | (with_reducible refine Below.setCell ?_ ?_ _) | (with_reducible refine Below.trans ?_ (Below.mono (by with_reducible assumption) ?_)) | (with_reducible exact Below.size (by with_reducible assumption)) | go_size))
    obtain ⟨hc_hb1, hf_hb1⟩ := bcell hb1; obtain ⟨hcA_hb1, hfA_hb1⟩ := bcellG (W0 := w) hb1 (by (repeat' (first | (with_reducible exact Below.refl _ _) | (with_reducible assumption) | (with_reducible refine Below.alloc ?_ ?_ _) | (with_reducible refine Below.drew ?_) | (with_reducible refine below_drewN ?_ _) | (with_reducible refine Below.setCell ?_ ?_ _) | (with_reducible refine Below.trans ?_ (Below.mono (by with_reducible assumption) ?_)) | (with_reducible exact Below.size (by with_reducible assumption)) | go_size))); have hz_hb1 := hb1.size; (try simp at hz_hb1); (try simp only [Nat.add_one_le_iff] at hz_hb1); have hz0_hb1 : w.heap.size < w1.heap.size := (by omega); have hz1_hb1 : w.heap.size + 1 < w1.heap.size := (by omega)
    clear HCK
    go_wp2_with fail
    refine bodyPost_ret (v := .tuple #[.agg #[.int .i64 0, .slice none 0 0], .int .i64 A]) (by simp [*, results, Try.results44, go_sem]) rfl ?_
    exact outC_err ((hw1.setCell (by simp) _).setCell (by simp) _)
  by_cases hd0 : d = 0
  · rw [faOut_zero hcd hd0]
    rw [hcd] at HCK
    obtain ⟨a, cap, rfl, _⟩ := hq
    clear hcd
    subst hd0
    go_enter Try.func44, Try.ntmps44
    go_wp2_with fail
    refine (HCK.out _ _ (by (repeat' (first | (with_reducible exact Below.refl _ _) | (with_reducible assumption) | (with_reducible refine Below.alloc ?_ ?_ _) | (with_reducible refine Below.drew ?_) | (with_reducible refine below_drewN ?_ _) | (with_reducible refine Below.setCell ?_ ?_ _) | (with_reducible refine Below.trans ?_ (Below.mono (by with_reducible assumption) ?_)) | (with_reducible exact Below.size (by with_reducible assumption)) | go_size))) (cel_two _ _ _ _ _ (by simp))).mono ?_
    rintro e w1 ⟨rfl, hb1⟩
    have hw1 : Below w.heap.size w w1 := by (repeat' (first | (with_reducible exact Below.refl _ _) | (with_reducible assumption) | (with_reducible refine Below.alloc ?_ ?_ _) | (with_reducible refine Below.drew ?_) | (with_reducible refine below_drewN ?_ _) | (with_reducible refine Below.setCell ?_ ?_ _) | (with_reducible refine Below.trans ?_ (Below.mono (by with_reducible assumption) ?_)) | (with_reducible exact Below.size (by with_reducible assumption)) | go_size))
    obtain ⟨hc_hb1, hf_hb1⟩ := bcell hb1; obtain ⟨hcA_hb1, hfA_hb1⟩ := bcellG (W0 := w) hb1 (by (repeat' (first | (with_reducible exact Below.refl _ _) | (with_reducible assumption) | (with_reducible refine Below.alloc ?_ ?_ _) | (with_reducible refine Below.drew ?_) | (with_reducible refine below_drewN ?_ _) | (with_reducible refine Below.setCell ?_ ?_ _) | (with_reducible refine Below.trans ?_ (Below.mono (by with_reducible assumption) ?_)) | (with_reducible exact Below.size (by with_reducible assumption)) | go_size))); have hz_hb1 := hb1.size; (try simp at hz_hb1); (try simp only [Nat.add_one_le_iff] at hz_hb1); have hz0_hb1 : w.heap.size < w1.heap.size := (by omega); have hz1_hb1 : w.heap.size + 1 < w1.heap.size := (by omega)
    clear HCK
    go_wp2_with fail
    refine bodyPost_ret (v := .tuple #[.agg #[.int .i64 0, .slice none 0 0], .int .i64 2]) (by simp [*, results, Try.results44, go_sem]) rfl ?_
    exact outC_err ((hw1.setCell (by simp) _).setCell (by simp) _)
  rw [faOut_ok hcd hd0]
  rw [hcd] at HCK
  obtain ⟨n, V, E, rfl, rfl, rfl, hc, hn1, hn5, hl, hV, hE⟩ := two_cb hcd
  clear hcd
  have hT := pow_le_32 hn5
  have hE0 : ((E : Int) == 0) = false := by simpa using hd0
  have hmx : Try.prog.follows .mixedOrders = true := by kernel_rfl
  obtain ⟨j0, hj, hyy0, hyy1, hyy2⟩ := info_parts info_int
  obtain ⟨b, off, cap, rfl, hb, hcell⟩ := Ints.at_ hq (by omega)
  have HC := Lib.hid hcell
  have HON := Lib.hid (fun w' => ones64_any (E : Int) (by omega) (by omega) w')
  have HIN := Lib.hid (fun (u : Nat) (hu : u < O.length) (bb : Bool) (h : faP V E u = bb) (w' : World) => isInFace_is u V E bb w' (by omega) (by omega) h)
  have hpe : ((2 ^ n : Nat) : Int) = (2 : Int) ^ n := by rw [Int.natCast_pow]; rfl
  have HNA := Lib.hid (fun (x : Int) (w' : World) => callsIn_wide.1 (numberedAnew_in n hn5 x (E : Int) w' (by omega) (by omega)))
  rw [Int.toNat_natCast, Int.toNat_natCast]
  have HLE := Lib.hid (fun k => faU_le V E k)
  have hEi : (E : Int) < 18446744073709551616 := by omega
  obtain ⟨m, hm⟩ : ∃ m, m = onesTo (E : Int) 5 := ⟨_, rfl⟩
  rw [← hm] at HON ⊢
  have hl32 : O.length ≤ 32 := by omega
  clear hl hc hq hcell hT hn1 hn5 hm hpe hV hE
  go_enter Try.func44, Try.ntmps44
  go_wp2_with fail
  refine (HCK.out _ _ (by (repeat' (first | (with_reducible exact Below.refl _ _) | (with_reducible assumption) | (with_reducible refine Below.alloc ?_ ?_ _) | (with_reducible refine Below.drew ?_) | (with_reducible refine below_drewN ?_ _) | (with_reducible refine Below.setCell ?_ ?_ _) | (with_reducible refine Below.trans ?_ (Below.mono (by with_reducible assumption) ?_)) | (with_reducible exact Below.size (by with_reducible assumption)) | go_size))) (cel_two _ _ _ _ _ (by simp))).mono ?_
  rintro e w1 ⟨rfl, hb1⟩
  have hw1 : Below w.heap.size w w1 := by (repeat' (first | (with_reducible exact Below.refl _ _) | (with_reducible assumption) | (with_reducible refine Below.alloc ?_ ?_ _) | (with_reducible refine Below.drew ?_) | (with_reducible refine below_drewN ?_ _) | (with_reducible refine Below.setCell ?_ ?_ _) | (with_reducible refine Below.trans ?_ (Below.mono (by with_reducible assumption) ?_)) | (with_reducible exact Below.size (by with_reducible assumption)) | go_size))
  obtain ⟨hc_hb1, hf_hb1⟩ := bcell hb1; obtain ⟨hcA_hb1, hfA_hb1⟩ := bcellG (W0 := w) hb1 (by (repeat' (first | (with_reducible exact Below.refl _ _) | (with_reducible assumption) | (with_reducible refine Below.alloc ?_ ?_ _) | (with_reducible refine Below.drew ?_) | (with_reducible refine below_drewN ?_ _) | (with_reducible refine Below.setCell ?_ ?_ _) | (with_reducible refine Below.trans ?_ (Below.mono (by with_reducible assumption) ?_)) | (with_reducible exact Below.size (by with_reducible assumption)) | go_size))); have hz_hb1 := hb1.size; (try simp at hz_hb1); (try simp only [Nat.add_one_le_iff] at hz_hb1); have hz0_hb1 : w.heap.size < w1.heap.size := (by omega); have hz1_hb1 : w.heap.size + 1 < w1.heap.size := (by omega)
  have HW1 := Lib.hid hw1
  clear HCK hw1
  go_wp2_with fail
  refine (HON.out _).mono ?_
  rintro e w2 ⟨rfl, rfl⟩
  have HK := Lib.hid (fun wr (h : Below w1.heap.size w1 wr) => show wr.cell? ⟨w.heap.size, 0, none⟩ = some (.int .i64 n) ∧ wr.cell? ⟨w.heap.size, 1, none⟩ = some (.slice (some ⟨b, off, none⟩) O.length cap) ∧ wr.cell? ⟨w.heap.size + 1, 0, none⟩ = some (.int .i64 0) ∧ wr.cell? ⟨w.heap.size + 1, 1, none⟩ = some (.slice none 0 0) ∧ (∀ o, wr.frozen? ⟨w.heap.size + 1, o, none⟩ = false) from
    ⟨(h.cell (p := ⟨w.heap.size, 0, none⟩) (by show w.heap.size < _; omega)).trans ((hc_hb1 _ _ (by simp; omega)).trans (cell_alloc3 _ _ _ _ _ _)), (h.cell (p := ⟨w.heap.size, 1, none⟩) (by show w.heap.size < _; omega)).trans ((hc_hb1 _ _ (by simp; omega)).trans (cell_alloc3 _ _ _ _ _ _)),
      (h.cell (p := ⟨w.heap.size + 1, 0, none⟩) (by show w.heap.size + 1 < _; omega)).trans ((hc_hb1 _ _ (by simp)).trans (by simp [go_sem])), (h.cell (p := ⟨w.heap.size + 1, 1, none⟩) (by show w.heap.size + 1 < _; omega)).trans ((hc_hb1 _ _ (by simp)).trans (by simp [go_sem])),
      fun o => (h.frozen (p := ⟨w.heap.size + 1, o, none⟩) (by show w.heap.size + 1 < _; omega)).trans ((hf_hb1 _ _ (by simp)).trans (by simp [go_sem]))⟩)
  have HCC := Lib.hid (fun wr (h : Below w1.heap.size w1 wr) k (hk : k < O.length) => show wr.cell? ⟨b, off + k, none⟩ = some (.int .i64 (O.getD k 0)) from
    (h.cell (p := ⟨b, off + k, none⟩) (by show b < _; have := HW1.out.size; omega)).trans ((HW1.out.cell (p := ⟨b, off + k, none⟩) hb).trans (HC.out k hk)))
  have H0 : Hid (CbV w1.heap.size w1 (w1.alloc (.cells #[.int .i64 m, .slice none 0 0] 43)) w1.heap.size m (.slice none 0 0) (faL O V E 0)) :=
    ⟨by rw [World.cell?_alloc_new]; rfl, by rw [World.cell?_alloc_new]; rfl, fun o => by simp, ⟨Nat.le_refl _, by simp⟩, rngI_nil _ _ _, by simp [Value.ownBlock], (Below.refl _ _).alloc (Nat.le_refl _) _⟩
  have hbw : b < w1.heap.size := by have := HW1.out.size; omega
  have x1 := (HK.out _ ((Below.refl _ w1).alloc (Nat.le_refl _) (.cells #[.int .i64 m, .slice none 0 0] 43))).2.1
  clear hc_hb1 hf_hb1 hcA_hb1 hfA_hb1 hb1 HC
  go_wp2_with fail
  obtain ⟨P, hP⟩ : ∃ P, P = w1.heap.size := ⟨_, rfl⟩
  obtain ⟨W0, hW0⟩ : ∃ W0, W0 = w1.alloc (.cells #[.int .i64 m, .slice none 0 0] 43) := ⟨_, rfl⟩
  have hHP : Hid (P = w1.heap.size) := hP
  have H0' : Hid (CbV w1.heap.size w1 W0 P m (.slice none 0 0) (faL O V E 0)) := by rw [hP, hW0]; exact H0
  have H0 := H0'
  clear H0'
  rw [← hP, ← hW0]
  clear hP hW0 x1
  go_loopw [10, 11, 31] (fun _ _ i wr => ∃ (k : Nat) (vv : Value), k ≤ O.length ∧ i = .int .i64 k ∧ CbV w1.heap.size w1 wr P m vv (faL O V E k)) (fun _ _ i _ => O.length - (intOf i).toNat)
  case atStart => exact ⟨0, _, Nat.zero_le _, by go_num, H0.out⟩
  case round =>
    obtain ⟨k, vv, hk, rfl, hO⟩ := hrel
    have hB := hO.low
    obtain ⟨y0, y1, y2, y3, y4⟩ := HK.out wr hB
    have p0 := hO.c0
    have p1 := hO.c1
    have p2 := hO.fz
    have hzr := hB.size
    by_cases hlt : k < O.length
    · have t1 := HCC.out wr hB k hlt
      obtain ⟨x, hx⟩ : ∃ x, O.getD k 0 = x := ⟨_, rfl⟩
      rw [hx] at t1
      have HI := Lib.hid (HIN.out k hlt)
      have HO := Lib.hid hO
      have HX := Lib.hid hx
      have hk63 : (k : Int) ≤ 9223372036854775807 := by omega
      cases hf : faP V E k
      · have HI1 := Lib.hid (HI.out false hf)
        have HNX := Lib.hid (faL_no (O := O) hf)
        clear hO hB hx hf
        go_wp2_with fail
        refine (HI1.out _).mono ?_; rintro e w2 ⟨rfl, rfl⟩
        go_wp2_with fail
        go_roundw
        case rel => exact ⟨k + 1, vv, by omega, by go_num, by rw [HNX.out]; exact HO.out⟩
        case measure => simp [intOf]; omega
      · have HI1 := Lib.hid (HI.out true hf)
        have HNX := Lib.hid (faL_yes (O := O) hf)
        obtain ⟨y, hy⟩ : ∃ y, gaI x (E : Int) = y := ⟨_, rfl⟩
        obtain ⟨L, hL⟩ : ∃ L, L = (faL O V E k).length := ⟨_, rfl⟩
        have HLL := Lib.hid hL
        have hL32 : L ≤ 32 := by have := HLE.out k; rw [hL]; simp [faL]; omega
        have HOU := Lib.hid (fun W' (h : Below wr.heap.size wr W') => show W'.ownsRow 0 2 1 vv L ((faL O V E k).map (Value.int .i64)) by
          rw [hL]
          exact hO.own.own.below h (fun b hb' => (hO.own.at_ b hb').2))
        have HNA1 := Lib.hid (fun w' => HNA.out x w')
        rw [hy] at HNA1
        have HNY := Lib.hid (show faL O V E (k + 1) = faL O V E k ++ [y] by rw [HNX.out, HX.out, hy])
        have hgP := hO.ne
        have hPW := hO.pb.2
        clear hO hB hx hf hy hL
        go_wp2_with fail
        refine (HI1.out _).mono ?_; rintro e w2 ⟨rfl, rfl⟩
        go_wp2_with fail
        obtain ⟨W, rfl⟩ : ∃ W, W = w2 := ⟨_, rfl⟩
        rename_i K0 hK0
        refine (wpIn_wide (n := 8)).1 ?_
        refine PR.wpIn_region_inv hmx (by kernel_rfl) (fun listed ac w' =>
            ∃ (b0 b1 b2 b3 b4 b5 b6 b7 b8 : Bool) (v' : Value) (hb : Nat), ((b1 = true → b0 = true) ∧ (b4 = true → b2 = true ∧ b3 = true) ∧ (b5 = true → b4 = true) ∧ (b6 = true → b1 = true ∧ b5 = true) ∧ (b8 = true → b7 = true ∧ b6 = true)) ∧ listed = #[b0, b1, b2, b3, b4, b5, b6, b7, b8] ∧
              ac = { tmps := #[.agg #[.int .i64 n, .slice (some ⟨b, off, none⟩) O.length cap], .int .i64 V, .int .i64 E, .pointer (some ⟨w.heap.size, 0, none⟩), undef, undef, .pointer (some ⟨w.heap.size + 1, 0, none⟩), .int .i64 0, .int .i64 0, .pointer (some ⟨P, 0, none⟩), .int .i64 k, .int .i64 x, .agg #[.int .i64 n, .slice (some ⟨b, off, none⟩) O.length cap], .int .i64 V, .int .i64 E, .slice (some ⟨w.heap.size + 1 + 1, 0, none⟩) 2 2, .int .i64 0, .int .i64 0, .bool false, undef, undef, .int .i64 E, .bool false, undef, .int .i64 E, .int .u64 E, .int .i64 m, .agg #[.int .i64 m, .slice none 0 0], .pointer (some ⟨w.heap.size, 1, none⟩), .slice (some ⟨b, off, none⟩) O.length cap, .int .i64 O.length, .int .i64 k, .bool true, .int .i64 k, .pointer (some ⟨b, off + k, none⟩), .int .i64 x, .int .i64 k, .int .i64 V, .int .i64 E, .bool true, cond b0 (.pointer (some ⟨P, 1, none⟩)) (u40), cond b1 (vv) (u41), cond b2 (.int .i64 x) (u42), cond b3 (.int .i64 E) (u43), cond b4 (.int .i64 y) (u44), cond b5 (.slice (some ⟨hb, 0, none⟩) 1 1) (u45), cond b6 (v') (u46), cond b7 (.pointer (some ⟨P, 1, none⟩)) (u47), u48, undef], defers := [] } ∧ MsR W w' P vv L (faL O V E k) y v' hb b5 b6 b8) ?_ ?_ ?_ ?_
        · rintro listed ac w' ⟨b0, b1, b2, b3, b4, b5, b6, b7, b8, v', hb, _, rfl, _⟩
          rfl
        · rintro listed ac w' ⟨b0, b1, b2, b3, b4, b5, b6, b7, b8, v', hb, _, rfl, rfl, hR⟩ hall
          have h0 := hall 0 (by simp)
          have h1 := hall 1 (by simp)
          have h2 := hall 2 (by simp)
          have h3 := hall 3 (by simp)
          have h4 := hall 4 (by simp)
          have h5 := hall 5 (by simp)
          have h6 := hall 6 (by simp)
          have h7 := hall 7 (by simp)
          have h8 := hall 8 (by simp)
          simp at h0 h1 h2 h3 h4 h5 h6 h7 h8
          subst h0 h1 h2 h3 h4 h5 h6 h7 h8
          clear hall
          refine hK0 _ _ ?_
          simp only [cond_true]
          obtain ⟨w3', w4', g2, cap2, rfl, hl3', hown, hgr, hat, hgl, h6'⟩ := hR.app rfl
          simp only [cond_true] at h6'
          have hN := HO.out.next (by omega) HLL.out hl3' hown hgr hat hgl
          rw [← h6', ← HNY.out] at hN
          have HN := Lib.hid hN
          clear hR hN hown hgr hat hgl hl3' h6' p0 p1 p2 y0 y1 y2 y3 y4 t1
          go_wp2_with fail
          go_roundw
          case rel => exact ⟨k + 1, _, by omega, by go_num, HN.out⟩
          case measure => simp [intOf]; omega
        · exact ⟨false, false, false, false, false, false, false, false, false, undef, 0, by simp, rfl, rfl, ⟨fun _ => (Below.refl _ _).drew, fun e => (by cases e), fun e => (by cases e)⟩⟩
        · rintro listed ac w' i oi ⟨b0, b1, b2, b3, b4, b5, b6, b7, b8, v', hb, ⟨e1, e4, e5, e6, e8⟩, rfl, rfl, hR⟩ ho hun hdep
          have hi : i < 9 := by simpa using (Array.getElem?_eq_some_iff.1 ho).1
          obtain rfl | rfl | rfl | rfl | rfl | rfl | rfl | rfl | rfl : i = 0 ∨ i = 1 ∨ i = 2 ∨ i = 3 ∨ i = 4 ∨ i = 5 ∨ i = 6 ∨ i = 7 ∨ i = 8 := by omega
          · -- 0
            simp only [List.getElem?_toArray, List.getElem?_cons_zero, Option.some.injEq] at ho
            subst ho
            have hbi : b0 = false := by simpa using hun
            subst hbi
            obtain rfl : b1 = false := Bool.eq_false_iff.2 (fun h => Bool.noConfusion (e1 h))
            obtain rfl : b6 = false := Bool.eq_false_iff.2 (fun h => Bool.noConfusion (e6 h).1)
            obtain rfl : b8 = false := Bool.eq_false_iff.2 (fun h => Bool.noConfusion (e8 h).2)
            refine wpOpIn_step rfl (fun K hK => ?_)
            clear hun hdep hi
            go_simp
            refine hK _ _ ⟨true, false, b2, b3, b4, b5, false, b7, false, v', hb, ⟨fun h => Bool.noConfusion h, e4, e5, fun h => Bool.noConfusion h, fun h => Bool.noConfusion h⟩, rfl, rfl, hR⟩
          · -- 1
            simp only [List.getElem?_toArray, List.getElem?_cons_succ, List.getElem?_cons_zero, Option.some.injEq] at ho
            subst ho
            have hbi : b1 = false := by simpa using hun
            subst hbi
            have hd0 : b0 = true := by have := hdep ⟨0, .data⟩ (by simp) rfl; simpa using this
            subst hd0
            obtain rfl : b6 = false := Bool.eq_false_iff.2 (fun h => Bool.noConfusion (e6 h).1)
            obtain rfl : b8 = false := Bool.eq_false_iff.2 (fun h => Bool.noConfusion (e8 h).2)
            refine wpOpIn_step rfl (fun K hK => ?_)
            clear hun hdep hi
            have q0 := ((hR.low rfl).cell (p := ⟨P, 1, none⟩) hPW).trans p1
            go_simp
            refine hK _ _ ⟨true, true, b2, b3, b4, b5, false, b7, false, v', hb, ⟨fun _ => rfl, e4, e5, fun h => Bool.noConfusion h, fun h => Bool.noConfusion h⟩, rfl, rfl, hR⟩
          · -- 2
            simp only [List.getElem?_toArray, List.getElem?_cons_succ, List.getElem?_cons_zero, Option.some.injEq] at ho
            subst ho
            have hbi : b2 = false := by simpa using hun
            subst hbi
            obtain rfl : b4 = false := Bool.eq_false_iff.2 (fun h => Bool.noConfusion (e4 h).1)
            obtain rfl : b5 = false := Bool.eq_false_iff.2 (fun h => Bool.noConfusion (e5 h))
            obtain rfl : b6 = false := Bool.eq_false_iff.2 (fun h => Bool.noConfusion (e6 h).2)
            obtain rfl : b8 = false := Bool.eq_false_iff.2 (fun h => Bool.noConfusion (e8 h).2)
            refine wpOpIn_step rfl (fun K hK => ?_)
            clear hun hdep hi
            go_simp
            refine hK _ _ ⟨b0, b1, true, b3, false, false, false, b7, false, v', hb, ⟨e1, fun h => Bool.noConfusion h, fun h => Bool.noConfusion h, fun h => Bool.noConfusion h, fun h => Bool.noConfusion h⟩, rfl, rfl, hR⟩
          · -- 3
            simp only [List.getElem?_toArray, List.getElem?_cons_succ, List.getElem?_cons_zero, Option.some.injEq] at ho
            subst ho
            have hbi : b3 = false := by simpa using hun
            subst hbi
            obtain rfl : b4 = false := Bool.eq_false_iff.2 (fun h => Bool.noConfusion (e4 h).2)
            obtain rfl : b5 = false := Bool.eq_false_iff.2 (fun h => Bool.noConfusion (e5 h))
            obtain rfl : b6 = false := Bool.eq_false_iff.2 (fun h => Bool.noConfusion (e6 h).2)
            obtain rfl : b8 = false := Bool.eq_false_iff.2 (fun h => Bool.noConfusion (e8 h).2)
            refine wpOpIn_step rfl (fun K hK => ?_)
            clear hun hdep hi
            go_simp
            refine hK _ _ ⟨b0, b1, b2, true, false, false, false, b7, false, v', hb, ⟨e1, fun h => Bool.noConfusion h, fun h => Bool.noConfusion h, fun h => Bool.noConfusion h, fun h => Bool.noConfusion h⟩, rfl, rfl, hR⟩
          · -- 4
            simp only [List.getElem?_toArray, List.getElem?_cons_succ, List.getElem?_cons_zero, Option.some.injEq] at ho
            subst ho
            have hbi : b4 = false := by simpa using hun
            subst hbi
            have hd2 : b2 = true := by have := hdep ⟨2, .data⟩ (by simp) rfl; simpa using this
            have hd3 : b3 = true := by have := hdep ⟨3, .data⟩ (by simp) rfl; simpa using this
            subst hd2 hd3
            obtain rfl : b5 = false := Bool.eq_false_iff.2 (fun h => Bool.noConfusion (e5 h))
            obtain rfl : b6 = false := Bool.eq_false_iff.2 (fun h => Bool.noConfusion (e6 h).2)
            obtain rfl : b8 = false := Bool.eq_false_iff.2 (fun h => Bool.noConfusion (e8 h).2)
            refine wpOpIn_step rfl (fun K hK => ?_)
            clear hun hdep hi
            go_simp
            refine ⟨trivial, (callsIn_wide.2 (HNA1.out w')).mono ?_⟩
            rintro e w'' ⟨rfl, hbc⟩
            refine hK _ _ ⟨b0, b1, true, true, true, false, false, b7, false, v', hb, ⟨e1, fun _ => ⟨rfl, rfl⟩, fun h => Bool.noConfusion h, fun h => Bool.noConfusion h, fun h => Bool.noConfusion h⟩, rfl, rfl, hR.call_ hbc⟩
          · -- 5
            simp only [List.getElem?_toArray, List.getElem?_cons_succ, List.getElem?_cons_zero, Option.some.injEq] at ho
            subst ho
            have hbi : b5 = false := by simpa using hun
            subst hbi
            have hd4 : b4 = true := by have := hdep ⟨4, .data⟩ (by simp) rfl; simpa using this
            have hd3 : b3 = true := (e4 hd4).2
            have hd2 : b2 = true := (e4 hd4).1
            subst hd2 hd3 hd4
            obtain rfl : b6 = false := Bool.eq_false_iff.2 (fun h => Bool.noConfusion (e6 h).2)
            obtain rfl : b8 = false := Bool.eq_false_iff.2 (fun h => Bool.noConfusion (e8 h).2)
            refine wpOpIn_step rfl (fun K hK => ?_)
            clear hun hdep hi
            go_simp
            refine hK _ _ ⟨b0, b1, true, true, true, true, false, b7, false, v', w'.heap.size, ⟨e1, fun _ => ⟨rfl, rfl⟩, fun _ => rfl, fun h => Bool.noConfusion h, fun h => Bool.noConfusion h⟩, rfl, rfl, hR.box_⟩
          · -- 6
            simp only [List.getElem?_toArray, List.getElem?_cons_succ, List.getElem?_cons_zero, Option.some.injEq] at ho
            subst ho
            have hbi : b6 = false := by simpa using hun
            subst hbi
            have hd1 : b1 = true := by have := hdep ⟨1, .data⟩ (by simp) rfl; simpa using this
            have hd5 : b5 = true := by have := hdep ⟨5, .data⟩ (by simp) rfl; simpa using this
            have hd4 : b4 = true := (e5 hd5)
            have hd3 : b3 = true := (e4 hd4).2
            have hd2 : b2 = true := (e4 hd4).1
            have hd0 : b0 = true := (e1 hd1)
            subst hd0 hd1 hd2 hd3 hd4 hd5
            obtain rfl : b8 = false := Bool.eq_false_iff.2 (fun h => Bool.noConfusion (e8 h).2)
            refine wpOpIn_step rfl (fun K hK => ?_)
            clear hun hdep hi
            refine PR.stepIn_append_at _ rfl _ _ 23 rfl 0 2 j0 (.int .i64 0) 1 8 Try.underlying23 hj hyy0 hyy1 hyy2 rfl (by decide) vv L _ rfl (HOU.out _ (hR.low rfl)) ⟨hb, 0, none⟩ 1 1 [.int .i64 y] rfl rfl (news_one' (hR.box rfl rfl)) (by simp [Value.oneCell']) (by decide) (by unfold maxLen; omega) (by omega) (Nat.zero_le _) ?_
            intro g2 cap2 w'' hown hgrow hat hgl
            refine hK _ _ ⟨true, true, true, true, true, true, true, b7, false, (.slice (some ⟨g2, 0, none⟩) (L + 1) cap2), hb, ⟨fun _ => rfl, fun _ => ⟨rfl, rfl⟩, fun _ => rfl, fun _ => ⟨rfl, rfl⟩, fun h => Bool.noConfusion h⟩, rfl, rfl, hR.app_ hown hgrow hat hgl⟩
          · -- 7
            simp only [List.getElem?_toArray, List.getElem?_cons_succ, List.getElem?_cons_zero, Option.some.injEq] at ho
            subst ho
            have hbi : b7 = false := by simpa using hun
            subst hbi
            obtain rfl : b8 = false := Bool.eq_false_iff.2 (fun h => Bool.noConfusion (e8 h).1)
            refine wpOpIn_step rfl (fun K hK => ?_)
            clear hun hdep hi
            go_simp
            refine hK _ _ ⟨b0, b1, b2, b3, b4, b5, b6, true, false, v', hb, ⟨e1, e4, e5, e6, fun h => Bool.noConfusion h⟩, rfl, rfl, hR⟩
          · -- 8
            simp only [List.getElem?_toArray, List.getElem?_cons_succ, List.getElem?_cons_zero, Option.some.injEq] at ho
            subst ho
            have hbi : b8 = false := by simpa using hun
            subst hbi
            have hd6 : b6 = true := by have := hdep ⟨6, .data⟩ (by simp) rfl; simpa using this
            have hd7 : b7 = true := by have := hdep ⟨7, .data⟩ (by simp) rfl; simpa using this
            have hd5 : b5 = true := (e6 hd6).2
            have hd4 : b4 = true := (e5 hd5)
            have hd3 : b3 = true := (e4 hd4).2
            have hd2 : b2 = true := (e4 hd4).1
            have hd1 : b1 = true := (e6 hd6).1
            have hd0 : b0 = true := (e1 hd1)
            subst hd0 hd1 hd2 hd3 hd4 hd5 hd6 hd7
            refine wpOpIn_step rfl (fun K hK => ?_)
            clear hun hdep hi
            obtain ⟨w3', w4', g2, cap2, rfl, hl3', _, hgr, _, _, h6'⟩ := hR.app rfl
            simp only [cond_false] at h6'
            subst h6'
            have hbl' := (hgr.block P (by have := hl3'.size; omega) (fun e => hgP e.symm)).trans (hl3'.block P hPW)
            have q0 := (World.cell?_of_block (w := W) (a := ⟨P, 1, none⟩) hbl').trans p1
            have q1 := (World.frozen?_of_block (w := W) (a := ⟨P, 1, none⟩) hbl').trans (p2 1)
            clear hbl' hl3' hgr
            go_simp
            refine hK _ _ ⟨true, true, true, true, true, true, true, true, true, (.slice (some ⟨g2, 0, none⟩) (L + 1) cap2), hb, ⟨fun _ => rfl, fun _ => ⟨rfl, rfl⟩, fun _ => rfl, fun _ => ⟨rfl, rfl⟩, fun _ => ⟨rfl, rfl⟩⟩, rfl, rfl, hR.store_⟩
    · obtain rfl : k = O.length := by omega
      have HO := Lib.hid hO
      clear hO hB hlt hk
      obtain ⟨a', c', hv⟩ := OwnI.shape HO.out.own.own
      subst hv
      go_wp2_with fail
      refine bodyPost_ret (v := .tuple #[.agg #[.int .i64 m, .slice a' (faL O V E O.length).length c'], .int .i64 0]) (by simp [*, results, Try.results44, go_sem]) rfl ?_
      have ht : Tch [w.heap.size + 1] wr ((wr.setCell ⟨w.heap.size + 1, 0, none⟩ (.int .i64 m)).setCell ⟨w.heap.size + 1, 1, none⟩ (.slice a' (faL O V E O.length).length c')) := ((Tch.refl _ _).setCell (by simp) _).setCell (by simp) _
      exact ⟨_, rfl, ⟨HO.out.own.own.tch ht (fun b hb c => by have := (HO.out.own.at_ b hb).1; simp at c; omega), fun b hb => ⟨by have := (HO.out.own.at_ b hb).1; omega, by simpa using (HO.out.own.at_ b hb).2⟩⟩, (HW1.out.trans (HO.out.low.mono HW1.out.size)).trans (ht.below (fun b hb => by simp at hb; omega))⟩
end Go.Proofs.Ytlccdnpicfmeaaa.PW
