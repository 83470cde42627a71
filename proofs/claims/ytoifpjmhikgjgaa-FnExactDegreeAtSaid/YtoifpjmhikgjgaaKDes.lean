/-
  The exact law of DegreeAt: the model's side, and the law.
-/
import Derived.Test.YtoifpjmhikgjgaaKDeg
import Derived.Test.YtoifpjmhikgjgaaPRoundB
namespace Go.Proofs.Ytoifpjmhikgjgaa.PW
open Go.RowKit Go.Proofs.Ytoifpjmhikgjgaa
open Go.Proofs.Ytoifpjmhikgjgaa.PM Go.Proofs.Ytoifpjmhikgjgaa.PX

theorem posit_of {xs : List (Int × Int)} (h : nonneg xs = true) : posit xs = !hasZ xs := by
  unfold posit hasZ nonneg at *
  rw [List.all_eq_true] at h
  cases e : xs.any fun x => decide (x.1 = 0)
  · rw [List.any_eq_false] at e
    show _ = true
    rw [List.all_eq_true]
    intro x hx
    have h1 := h x hx
    have h2 := e x hx
    simp at h1 h2 ⊢
    omega
  · rw [List.any_eq_true] at e
    obtain ⟨x, hx, h2⟩ := e
    show _ = false
    rw [List.all_eq_false]
    refine ⟨x, hx, ?_⟩
    simp at h2 ⊢
    omega
theorem fea_at {M : List (List Int)} {Q : List Int} {T : Nat} {s : Int} (h : s ∈ feaTo M Q T) : dt M.length (colS M s) ≠ 0 ∧ nonneg (ptL M Q s) = true := by
  induction T with
  | zero => simp [feaTo] at h
  | succ k ih =>
    rw [feaTo, List.mem_append] at h
    rcases h with h | h
    · exact ih h
    · split at h
      · rename_i hf
        simp at h
        subst h
        by_cases hD : dt M.length (colS M k) = 0
        · rw [feasB_zero hD] at hf; exact Bool.noConfusion hf
        · exact ⟨hD, by rw [← feasB_ok hD]; exact hf⟩
      · simp at h
theorem dgK_pos {M : List (List Int)} {L : List Int} {k : Nat} (h : 0 < mnD M (L.getD k 0)) : dgK M L (k + 1) = dgK M L k + 1 := by
  rw [dgK]
  unfold sgn
  rw [if_neg (by omega), if_pos h]
theorem dgK_neg {M : List (List Int)} {L : List Int} {k : Nat} (h : ¬ 0 < mnD M (L.getD k 0)) (h0 : mnD M (L.getD k 0) ≠ 0) : dgK M L (k + 1) = dgK M L k - 1 := by
  rw [dgK]
  unfold sgn
  rw [if_pos (by omega)]
  rfl

set_option maxRecDepth 100000 in
set_option maxHeartbeats 8000000 in
theorem specDegreeAt_ok (m q : Value) (M : List (List Int)) (Q : List Int) (w : World) (h1 : PM.Rows w m M) (h2 : Ints w q Q) (hp : isPB M Q = true) :
    Calls Try.prog 51 #[.agg #[m, q]] w (OutN w (dgOut M Q)) := by
  have hmx : Try.prog.follows .mixedOrders = true := by kernel_rfl
  have g1 := fun (w' : World) (h : Below w.heap.size w w') => h1.below h
  have g2 := fun (w' : World) (h : Below w.heap.size w w') => h2.below h
  obtain ⟨f1, f2, hql, f4, _⟩ := isPB_facts hp
  have hrl : ∀ j, j < M.length → (M.getD j []).length = M.length := fun j hj => (f4 j hj).1
  obtain ⟨F, hF⟩ : ∃ F, F = feaTo M Q (2 ^ M.length) := ⟨_, rfl⟩
  have hfm : ∀ k, k < F.length → 0 ≤ F.getD k 0 ∧ F.getD k 0 < 2 ^ M.length ∧ dt M.length (colS M (F.getD k 0)) ≠ 0 ∧ nonneg (ptL M Q (F.getD k 0)) = true ∧ F.getD k 0 < 32 := fun k hk => by
    have hm : F.getD k 0 ∈ feaTo M Q (2 ^ M.length) := by rw [← hF]; simp [hk]
    have := feaTo_mem M Q _ _ hm
    have h32 : F.getD k 0 < 32 := by have h5 : 2 ^ M.length ≤ 2 ^ 5 := Nat.pow_le_pow_right (show 0 < 2 by omega) f2; omega
    rw [Int.natCast_pow] at this
    exact ⟨this.1, this.2, (fea_at hm).1, (fea_at hm).2, h32⟩
  have hlen : F.length ≤ 32 := by
    rw [hF]
    exact Nat.le_trans (feaTo_length M Q _) (Nat.pow_le_pow_right (show 0 < 2 by omega) f2)
  have hinn : innB M Q = F.all fun s => !hasZ (ptL M Q s) := by rw [hF]; rfl
  have hin1 : (∀ j, j < F.length → hasZ (ptL M Q (F.getD j 0)) = false) → innB M Q = true := fun h => by
    rw [hinn, List.all_eq_true]
    intro s hs
    obtain ⟨j, hj, rfl⟩ := List.getElem_of_mem hs
    have := h j hj
    simp [hj] at this
    simp [this]
  have hin0 : ∀ j, j < F.length → hasZ (ptL M Q (F.getD j 0)) = true → innB M Q = false := fun j hj h => by
    rw [hinn, List.all_eq_false]
    refine ⟨F.getD j 0, by simp [hj], ?_⟩
    rw [h]
    exact Bool.noConfusion
  have ho0 : innB M Q = false → dgOut M Q = (0, 5) := dgOut_out hp
  have ho1 : innB M Q = true → dgOut M Q = (dgK M F F.length, 0) := fun h => by rw [dgOut_ok hp h, ← hF]
  obtain ⟨O, hO⟩ : ∃ O, O = dgOut M Q := ⟨_, rfl⟩
  have HO0 := Lib.hid (fun j hj h => show O = (0, 5) by rw [hO]; exact ho0 (hin0 j hj h))
  have HO1 := Lib.hid (fun h => show O = (dgK M F F.length, 0) by rw [hO]; exact ho1 (hin1 h))
  rw [← hO]
  have HLI := Lib.hid (fun (w' : World) (hb : Below w.heap.size w w') => l10List_is _ _ M Q w' (g1 _ hb) (g2 _ hb) hp)
  rw [← hF] at HLI
  have HIS := Lib.hid (fun (w' : World) (hb : Below w.heap.size w w') => l01Is_any _ _ M Q w' (g1 _ hb) (g2 _ hb))
  rw [hp] at HIS
  have HCV := Lib.hid (fun (k : Nat) (hk : k < F.length) (w' : World) (hb : Below w.heap.size w w') => l10Covers_ok _ _ M Q (F.getD k 0) w' (g1 _ hb) (g2 _ hb) hp (hfm k hk).2.2.1)
  have HFM := Lib.hid hfm
  have HPA := Lib.hid (fun (k : Nat) (hk : k < F.length) (w' : World) (hb : Below w.heap.size w w') => l01Part_any m M (F.getD k 0) w' (g1 _ hb) f1 f2 hrl (degAll hp) (hfm k hk).1 (hfm k hk).2.2.2.2)
  have HPD := Lib.hid (fun (s : Int) s' v hr => partL_det (M := M) (rs := s) (cs := s) (s := s') (v := v) f2 rfl (degAll hp) hr)
  have HPI := Lib.hid (fun s : Int => partL_I64 (degAll hp) s s)
  have HNZ := Lib.hid (fun (k : Nat) (hk : k < F.length) (c : mnD M (F.getD k 0) = 0) => (hfm k hk).2.2.1 ((colS_mnD f2).2 c))
  have HDB := Lib.hid (dgK_bd M F)
  obtain ⟨a1, c1, rfl, _⟩ := h1
  obtain ⟨a2, c2, rfl, _⟩ := h2
  obtain ⟨n, hn⟩ : ∃ n, n = F.length := ⟨_, rfl⟩
  rw [← hn] at hlen
  have HN := Lib.hid hn
  rw [← hn] at HLI HO1
  clear hql hp hF hfm hinn hin1 hin0 ho0 ho1 hO hrl f4 hn f1 f2
  go_enter Try.func51, Try.ntmps51
  go_wp2_with fail
  refine (HIS.out _ (by (repeat' (first | (with_reducible exact Below.refl _ _) | (with_reducible assumption) | (with_reducible refine Below.alloc ?_ ?_ _) | (with_reducible refine Below.drew ?_) | (with_reducible refine below_drewN ?_ _) | (with_reducible refine Below.setCell ?_ ?_ _) | (with_reducible refine Below.trans ?_ (Below.mono (by with_reducible assumption) ?_)) | (with_reducible exact Below.size (by with_reducible assumption)) | go_size)))).mono ?_; rintro e w1 ⟨rfl, hb1⟩; obtain ⟨hc_hb1, hf_hb1⟩ := bcell hb1; obtain ⟨hcA_hb1, hfA_hb1⟩ := bcellG (W0 := w) hb1 (by (repeat' (first | (with_reducible exact Below.refl _ _) | (with_reducible assumption) | (with_reducible refine Below.alloc ?_ ?_ _) | (with_reducible refine Below.drew ?_) | (with_reducible refine below_drewN ?_ _) | (with_reducible refine Below.setCell ?_ ?_ _) | (with_reducible refine Below.trans ?_ (Below.mono (by with_reducible assumption) ?_)) | (with_reducible exact Below.size (by with_reducible assumption)) | go_size))); have hz_hb1 := hb1.size; (try simp at hz_hb1); (try simp only [Nat.add_one_le_iff] at hz_hb1); have hz0_hb1 : w.heap.size < w1.heap.size := (by omega)
  have hw1 : Below w.heap.size w w1 := by (repeat' (first | (with_reducible exact Below.refl _ _) | (with_reducible assumption) | (with_reducible refine Below.alloc ?_ ?_ _) | (with_reducible refine Below.drew ?_) | (with_reducible refine below_drewN ?_ _) | (with_reducible refine Below.setCell ?_ ?_ _) | (with_reducible refine Below.trans ?_ (Below.mono (by with_reducible assumption) ?_)) | (with_reducible exact Below.size (by with_reducible assumption)) | go_size))
  have x0 : w1.cell? ⟨w.heap.size, 0, none⟩ = some (.slice a1 M.length c1) := by rw [hc_hb1 _ _ (by go_size)]; simp
  have x1 : w1.cell? ⟨w.heap.size, 1, none⟩ = some (.slice a2 Q.length c2) := by rw [hc_hb1 _ _ (by go_size)]; simp
  have hz1 : w.heap.size < w1.heap.size := hz0_hb1
  clear hc_hb1 hf_hb1 hcA_hb1 hfA_hb1 hz_hb1 hb1
  have X0 := Lib.hid x0
  have X1 := Lib.hid x1
  have W1 := Lib.hid hw1
  go_wp2_with fail
  refine (HLI.out _ hw1).mono ?_
  rintro e w2 ⟨g, cL, rfl, hf, hb2⟩
  have HB2 := Lib.hid hb2
  have HF := Lib.hid hf
  have hz2 : w1.heap.size ≤ w2.heap.size := hb2.size
  clear hf hb2 hw1 x0 x1
  go_wp2_with fail
  go_loopw [5, 6, 7, 8, 9] (fun s i _ _ _ wr => ∃ k : Nat, k ≤ n ∧ i = .int .i64 k ∧ s = .int .i64 (dgK M F k) ∧ (∀ j, j < k → hasZ (ptL M Q (F.getD j 0)) = false) ∧ Below w2.heap.size w2 wr) (fun _ i _ _ _ _ => n - (intOf i).toNat)
  case atStart => exact ⟨0, Nat.zero_le _, rfl, rfl, fun j hj => absurd hj (Nat.not_lt_zero _), Below.refl _ _⟩
  case round =>
    obtain ⟨k, hk, rfl, rfl, hall, hB⟩ := hrel
    have HALL := Lib.hid hall
    have HB := Lib.hid hB
    have hbw := W1.out.trans ((HB2.out.trans (hB.mono HB2.out.size)).mono W1.out.size)
    have HBW := Lib.hid hbw
    have hzr : w.heap.size < wr.heap.size := by have := hB.size; omega
    clear hall
    by_cases hlt : k < n
    · have hlt' : k < F.length := by rw [← HN.out]; exact hlt
      obtain ⟨sk, hsk⟩ : ∃ sk, sk = F.getD k 0 := ⟨_, rfl⟩
      obtain ⟨_, _, hvv, hgl, _, hoo⟩ := id (HF.out.below hB)
      have ck := own_cellN hoo HN.out hlt
      rw [← hsk] at ck
      have x0 := (hB.cell (p := ⟨w.heap.size, 0, none⟩) (by show w.heap.size < _; omega)).trans ((HB2.out.cell (p := ⟨w.heap.size, 0, none⟩) (by show w.heap.size < _; omega)).trans X0.out)
      have x1 := (hB.cell (p := ⟨w.heap.size, 1, none⟩) (by show w.heap.size < _; omega)).trans ((HB2.out.cell (p := ⟨w.heap.size, 1, none⟩) (by show w.heap.size < _; omega)).trans X1.out)
      have hgr : g < wr.heap.size := by simp at hvv; omega
      obtain ⟨bi, hbi⟩ : ∃ bi, bi = !hasZ (ptL M Q sk) := ⟨_, rfl⟩
      have HBF := Lib.hid (fun (h : bi = false) => HO0.out k hlt' (by rw [← hsk]; rw [hbi] at h; simpa using h))
      have HBT := Lib.hid (fun (h : bi = true) => show ∀ j, j < k + 1 → hasZ (ptL M Q (F.getD j 0)) = false from fun j hj => by
        by_cases e : j = k
        · rw [e, ← hsk]; rw [hbi] at h; simpa using h
        · exact HALL.out j (by omega))
      have hfk := HFM.out k hlt'
      rw [← hsk] at hfk
      have HCK := Lib.hid (fun (w' : World) (hb : Below w.heap.size w w') => HCV.out k hlt' w' hb)
      rw [← hsk, hfk.2.2.2.1, posit_of hfk.2.2.2.1, ← hbi] at HCK
      have HPK := Lib.hid (fun (w' : World) (hb : Below w.heap.size w w') => HPA.out k hlt' w' hb)
      rw [← hsk] at HPK
      have HDK := Lib.hid (HPD.out sk)
      have HIK := Lib.hid (HPI.out sk)
      have hnz := HNZ.out k hlt'
      have HPOS := Lib.hid (fun h => dgK_pos (M := M) (L := F) (k := k) h)
      have HNEG := Lib.hid (fun h h0 => dgK_neg (M := M) (L := F) (k := k) h h0)
      rw [← hsk] at hnz HPOS HNEG
      have HNZK := Lib.hid hnz
      have hdb := HDB.out k
      have HDBK := Lib.hid hdb
      have hx0 : (0 : Int) ≤ (k : Int) := by omega
      have hx1 : (k : Int) < (n : Int) := by omega
      clear hB hbw hoo hvv hgl hbi hfk hsk hnz hdb hlt'
      go_wp2_with fail
      rename_i K0 hK0
      refine (wpIn_wide (n := 8)).1 ?_
      refine PR.wpIn_region_inv hmx (by kernel_rfl) (fun listed ac w' =>
          ∃ (b0 b1 b2 b3 b4 b5 b6 b7 b8 b9 b10 b11 b12 : Bool), ((b3 = true → b1 = true ∧ b2 = true) ∧ (b4 = true → b3 = true) ∧ (b5 = true → b0 = true ∧ b4 = true) ∧ (b6 = true → b5 = true) ∧ (b7 = true → b6 = true) ∧ (b8 = true → b6 = true) ∧ (b9 = true → b6 = true) ∧ (b10 = true → b7 = true) ∧ (b11 = true → b8 = true ∧ b10 = true) ∧ (b12 = true → b9 = true ∧ b11 = true)) ∧ listed = #[b0, b1, b2, b3, b4, b5, b6, b7, b8, b9, b10, b11, b12] ∧
            ac = { tmps := #[.agg #[.slice a1 M.length c1, .slice a2 Q.length c2], .pointer (some ⟨w.heap.size, 0, none⟩), u2, u3, .slice (some ⟨g, 0, none⟩) n cL, .int .i64 (dgK M F k), .int .i64 k, cond b10 (.bool true) (u7), cond b11 (.bool true) (u8), cond b12 (.bool bi) (u9), .agg #[.slice a1 M.length c1, .slice a2 Q.length c2], .bool true, .bool false, .agg #[.slice a1 M.length c1, .slice a2 Q.length c2], .slice (some ⟨g, 0, none⟩) n cL, .int .i64 k, .slice (some ⟨g, 0, none⟩) n cL, .int .i64 n, .bool true, u19, u20, cond b6 (.tuple #[.bool true, .bool true, .bool bi]) (u21), cond b0 (.agg #[.slice a1 M.length c1, .slice a2 Q.length c2]) (u22), cond b1 (.slice (some ⟨g, 0, none⟩) n cL) (u23), cond b2 (.int .i64 k) (u24), cond b3 (.pointer (some ⟨g, k, none⟩)) (u25), cond b4 (.int .i64 sk) (u26), cond b5 (.tuple #[.bool true, .bool true, .bool bi]) (u27), cond b7 (.bool true) (u28), cond b8 (.bool true) (u29), cond b9 (.bool bi) (u30), u31, u32, u33, u34, u35, u36, u37, u38, u39, u40, u41, u42, u43, u44, u45, undef], defers := [] } ∧ Below wr.heap.size wr w') ?_ ?_ ?_ ?_
      · rintro listed ac w' ⟨b0, b1, b2, b3, b4, b5, b6, b7, b8, b9, b10, b11, b12, _, rfl, _⟩
        rfl
      · rintro listed ac w' ⟨b0, b1, b2, b3, b4, b5, b6, b7, b8, b9, b10, b11, b12, _, rfl, rfl, hR⟩ hall
        have h0 := hall 0 (by simp)
        have h1 := hall 1 (by simp)
        have h2 := hall 2 (by simp)
        have h3 := hall 3 (by simp)
        have h4 := hall 4 (by simp)
        have h5 := hall 5 (by simp)
        have h6 := hall 6 (by simp)
        have h7 := hall 7 (by simp)
        have h8 := hall 8 (by simp)
        have h9 := hall 9 (by simp)
        have h10 := hall 10 (by simp)
        have h11 := hall 11 (by simp)
        have h12 := hall 12 (by simp)
        simp at h0 h1 h2 h3 h4 h5 h6 h7 h8 h9 h10 h11 h12
        subst h0 h1 h2 h3 h4 h5 h6 h7 h8 h9 h10 h11 h12
        clear hall
        refine hK0 _ _ ?_
        simp only [cond_true]
        have HBX := Lib.hid (HBW.out.trans (hR.mono HBW.out.size))
        have HRB := Lib.hid hR
        have hzx : w.heap.size < w'.heap.size := Nat.lt_of_lt_of_le hzr hR.size
        have hgx : g < w'.heap.size := Nat.lt_of_lt_of_le hgr hR.size
        have y0 := (hR.cell (p := ⟨w.heap.size, 0, none⟩) hzr).trans x0
        have yk := (hR.cell (p := ⟨g, k, none⟩) hgr).trans ck
        clear hR x0 x1 ck
        cases bi
        · have HO := Lib.hid (HBF.out rfl)
          clear y0 yk
          go_wp2_with fail
          go_ret2
          exact ⟨by rw [HO.out]; rfl, HBX.out⟩
        · obtain ⟨wx, rfl⟩ : ∃ wx, wx = w' := ⟨_, rfl⟩
          go_wp2_with fail
          rename_i K1 hK1 hq1
          refine (wpIn_wide (n := 8)).1 ?_
          refine PR.wpIn_region_inv hmx (by kernel_rfl) (fun listed ac w' =>
              ∃ (b0 b1 b2 b3 b4 b5 b6 b7 b8 : Bool) (v : Value), ((b1 = true → b0 = true) ∧ (b4 = true → b2 = true ∧ b3 = true) ∧ (b5 = true → b4 = true) ∧ (b6 = true → b1 = true ∧ b5 = true) ∧ (b7 = true → b6 = true) ∧ (b8 = true → b7 = true)) ∧ listed = #[b0, b1, b2, b3, b4, b5, b6, b7, b8] ∧
                ac = { tmps := #[.agg #[.slice a1 M.length c1, .slice a2 Q.length c2], .pointer (some ⟨w.heap.size, 0, none⟩), u2, u3, .slice (some ⟨g, 0, none⟩) n cL, .int .i64 (dgK M F k), .int .i64 k, .bool true, .bool true, .bool true, .agg #[.slice a1 M.length c1, .slice a2 Q.length c2], .bool true, .bool false, .agg #[.slice a1 M.length c1, .slice a2 Q.length c2], .slice (some ⟨g, 0, none⟩) n cL, .int .i64 k, .slice (some ⟨g, 0, none⟩) n cL, .int .i64 n, .bool true, u19, u20, .tuple #[.bool true, .bool true, .bool true], .agg #[.slice a1 M.length c1, .slice a2 Q.length c2], .slice (some ⟨g, 0, none⟩) n cL, .int .i64 k, .pointer (some ⟨g, k, none⟩), .int .i64 sk, .tuple #[.bool true, .bool true, .bool true], .bool true, .bool true, .bool true, .bool true, .bool false, cond b0 (.pointer (some ⟨w.heap.size, 0, none⟩)) (u33), cond b1 (.slice a1 M.length c1) (u34), cond b2 (.slice (some ⟨g, 0, none⟩) n cL) (u35), cond b3 (.int .i64 k) (u36), cond b4 (.pointer (some ⟨g, k, none⟩)) (u37), cond b5 (.int .i64 sk) (u38), cond b6 (v) (u39), cond b7 (.int .i64 (mnD M sk)) (u40), cond b8 (.bool (decide (0 < mnD M sk))) (u41), u42, u43, u44, u45, undef], defers := [] } ∧ (Below wx.heap.size wx w' ∧ (b6 = true → PM.Rows w' v (partL M sk sk)))) ?_ ?_ ?_ ?_
          · rintro listed ac w' ⟨b0, b1, b2, b3, b4, b5, b6, b7, b8, v, _, rfl, _⟩
            rfl
          · rintro listed ac w' ⟨b0, b1, b2, b3, b4, b5, b6, b7, b8, v, _, rfl, rfl, hR⟩ hall
            have h0 := hall 0 (by simp)
            have h1 := hall 1 (by simp)
            have h2 := hall 2 (by simp)
            have h3 := hall 3 (by simp)
            have h4 := hall 4 (by simp)
            have h5 := hall 5 (by simp)
            have h6 := hall 6 (by simp)
            have h7 := hall 7 (by simp)
            have h8 := hall 8 (by simp)
            simp at h0 h1 h2 h3 h4 h5 h6 h7 h8
            subst h0 h1 h2 h3 h4 h5 h6 h7 h8
            clear hall
            refine hK1 _ _ ?_
            simp only [cond_true]
            have HBY := Lib.hid (HRB.out.trans (hR.1.mono HRB.out.size))
            clear hR y0 yk
            by_cases hpos : 0 < mnD M sk
            · have HD := Lib.hid (HPOS.out hpos)
              have hdb := HDBK.out
              generalize mnD M sk = D at *
              generalize dgK M F k = S at *
              go_wp2_with fail
              go_roundw
              case rel => exact ⟨k + 1, by omega, by go_num, by rw [HD.out], HBT.out trivial, HB.out.trans (HBY.out.mono HB.out.size)⟩
              case measure => simp [intOf]; omega
            · have HD := Lib.hid (HNEG.out (by omega) HNZK.out)
              have hdb := HDBK.out
              generalize mnD M sk = D at *
              generalize dgK M F k = S at *
              go_wp2_with fail
              go_roundw
              case rel => exact ⟨k + 1, by omega, by go_num, by rw [HD.out], HBT.out trivial, HB.out.trans (HBY.out.mono HB.out.size)⟩
              case measure => simp [intOf]; omega
          · exact ⟨false, false, false, false, false, false, false, false, false, undef, by simp, rfl, rfl, ⟨(Below.refl _ _).drew, fun h => Bool.noConfusion h⟩⟩
          · rintro listed ac w' i oi ⟨b0, b1, b2, b3, b4, b5, b6, b7, b8, v, ⟨e1, e4, e5, e6, e7, e8⟩, rfl, rfl, hR⟩ ho hun hdep
            have hi : i < 9 := by simpa using (Array.getElem?_eq_some_iff.1 ho).1
            obtain rfl | rfl | rfl | rfl | rfl | rfl | rfl | rfl | rfl : i = 0 ∨ i = 1 ∨ i = 2 ∨ i = 3 ∨ i = 4 ∨ i = 5 ∨ i = 6 ∨ i = 7 ∨ i = 8 := by omega
            · -- 0
              simp only [List.getElem?_toArray, List.getElem?_cons_zero, Option.some.injEq] at ho
              subst ho
              have hbi : b0 = false := by simpa using hun
              subst hbi
              obtain rfl : b1 = false := Bool.eq_false_iff.2 (fun h => Bool.noConfusion (e1 h))
              obtain rfl : b6 = false := Bool.eq_false_iff.2 (fun h => Bool.noConfusion (e6 h).1)
              obtain rfl : b7 = false := Bool.eq_false_iff.2 (fun h => Bool.noConfusion (e7 h))
              obtain rfl : b8 = false := Bool.eq_false_iff.2 (fun h => Bool.noConfusion (e8 h))
              refine wpOpIn_step rfl (fun K hK => ?_)
              clear hun hdep hi
              go_simp
              refine hK _ _ ⟨true, false, b2, b3, b4, b5, false, false, false, v, ⟨fun h => Bool.noConfusion h, e4, e5, fun h => Bool.noConfusion h, fun h => Bool.noConfusion h, fun h => Bool.noConfusion h⟩, rfl, rfl, hR⟩
            · -- 1
              simp only [List.getElem?_toArray, List.getElem?_cons_succ, List.getElem?_cons_zero, Option.some.injEq] at ho
              subst ho
              have hbi : b1 = false := by simpa using hun
              subst hbi
              have hd0 : b0 = true := by have := hdep ⟨0, .data⟩ (by simp) rfl; simpa using this
              subst hd0
              obtain rfl : b6 = false := Bool.eq_false_iff.2 (fun h => Bool.noConfusion (e6 h).1)
              obtain rfl : b7 = false := Bool.eq_false_iff.2 (fun h => Bool.noConfusion (e7 h))
              obtain rfl : b8 = false := Bool.eq_false_iff.2 (fun h => Bool.noConfusion (e8 h))
              refine wpOpIn_step rfl (fun K hK => ?_)
              clear hun hdep hi
              have k0 := (hR.1.cell (p := ⟨w.heap.size, 0, none⟩) hzx).trans y0
              go_simp
              refine hK _ _ ⟨true, true, b2, b3, b4, b5, false, false, false, v, ⟨fun _ => rfl, e4, e5, fun h => Bool.noConfusion h, fun h => Bool.noConfusion h, fun h => Bool.noConfusion h⟩, rfl, rfl, hR⟩
            · -- 2
              simp only [List.getElem?_toArray, List.getElem?_cons_succ, List.getElem?_cons_zero, Option.some.injEq] at ho
              subst ho
              have hbi : b2 = false := by simpa using hun
              subst hbi
              obtain rfl : b4 = false := Bool.eq_false_iff.2 (fun h => Bool.noConfusion (e4 h).1)
              obtain rfl : b5 = false := Bool.eq_false_iff.2 (fun h => Bool.noConfusion (e5 h))
              obtain rfl : b6 = false := Bool.eq_false_iff.2 (fun h => Bool.noConfusion (e6 h).2)
              obtain rfl : b7 = false := Bool.eq_false_iff.2 (fun h => Bool.noConfusion (e7 h))
              obtain rfl : b8 = false := Bool.eq_false_iff.2 (fun h => Bool.noConfusion (e8 h))
              refine wpOpIn_step rfl (fun K hK => ?_)
              clear hun hdep hi
              go_simp
              refine hK _ _ ⟨b0, b1, true, b3, false, false, false, false, false, v, ⟨e1, fun h => Bool.noConfusion h, fun h => Bool.noConfusion h, fun h => Bool.noConfusion h, fun h => Bool.noConfusion h, fun h => Bool.noConfusion h⟩, rfl, rfl, hR⟩
            · -- 3
              simp only [List.getElem?_toArray, List.getElem?_cons_succ, List.getElem?_cons_zero, Option.some.injEq] at ho
              subst ho
              have hbi : b3 = false := by simpa using hun
              subst hbi
              obtain rfl : b4 = false := Bool.eq_false_iff.2 (fun h => Bool.noConfusion (e4 h).2)
              obtain rfl : b5 = false := Bool.eq_false_iff.2 (fun h => Bool.noConfusion (e5 h))
              obtain rfl : b6 = false := Bool.eq_false_iff.2 (fun h => Bool.noConfusion (e6 h).2)
              obtain rfl : b7 = false := Bool.eq_false_iff.2 (fun h => Bool.noConfusion (e7 h))
              obtain rfl : b8 = false := Bool.eq_false_iff.2 (fun h => Bool.noConfusion (e8 h))
              refine wpOpIn_step rfl (fun K hK => ?_)
              clear hun hdep hi
              go_simp
              refine hK _ _ ⟨b0, b1, b2, true, false, false, false, false, false, v, ⟨e1, fun h => Bool.noConfusion h, fun h => Bool.noConfusion h, fun h => Bool.noConfusion h, fun h => Bool.noConfusion h, fun h => Bool.noConfusion h⟩, rfl, rfl, hR⟩
            · -- 4
              simp only [List.getElem?_toArray, List.getElem?_cons_succ, List.getElem?_cons_zero, Option.some.injEq] at ho
              subst ho
              have hbi : b4 = false := by simpa using hun
              subst hbi
              have hd2 : b2 = true := by have := hdep ⟨2, .data⟩ (by simp) rfl; simpa using this
              have hd3 : b3 = true := by have := hdep ⟨3, .data⟩ (by simp) rfl; simpa using this
              subst hd2 hd3
              obtain rfl : b5 = false := Bool.eq_false_iff.2 (fun h => Bool.noConfusion (e5 h))
              obtain rfl : b6 = false := Bool.eq_false_iff.2 (fun h => Bool.noConfusion (e6 h).2)
              obtain rfl : b7 = false := Bool.eq_false_iff.2 (fun h => Bool.noConfusion (e7 h))
              obtain rfl : b8 = false := Bool.eq_false_iff.2 (fun h => Bool.noConfusion (e8 h))
              refine wpOpIn_step rfl (fun K hK => ?_)
              clear hun hdep hi
              go_simp
              refine hK _ _ ⟨b0, b1, true, true, true, false, false, false, false, v, ⟨e1, fun _ => ⟨rfl, rfl⟩, fun h => Bool.noConfusion h, fun h => Bool.noConfusion h, fun h => Bool.noConfusion h, fun h => Bool.noConfusion h⟩, rfl, rfl, hR⟩
            · -- 5
              simp only [List.getElem?_toArray, List.getElem?_cons_succ, List.getElem?_cons_zero, Option.some.injEq] at ho
              subst ho
              have hbi : b5 = false := by simpa using hun
              subst hbi
              have hd4 : b4 = true := by have := hdep ⟨4, .data⟩ (by simp) rfl; simpa using this
              have hd3 : b3 = true := (e4 hd4).2
              have hd2 : b2 = true := (e4 hd4).1
              subst hd2 hd3 hd4
              obtain rfl : b6 = false := Bool.eq_false_iff.2 (fun h => Bool.noConfusion (e6 h).2)
              obtain rfl : b7 = false := Bool.eq_false_iff.2 (fun h => Bool.noConfusion (e7 h))
              obtain rfl : b8 = false := Bool.eq_false_iff.2 (fun h => Bool.noConfusion (e8 h))
              refine wpOpIn_step rfl (fun K hK => ?_)
              clear hun hdep hi
              have k0 := (hR.1.cell (p := ⟨g, k, none⟩) hgx).trans yk
              go_simp
              refine hK _ _ ⟨b0, b1, true, true, true, true, false, false, false, v, ⟨e1, fun _ => ⟨rfl, rfl⟩, fun _ => rfl, fun h => Bool.noConfusion h, fun h => Bool.noConfusion h, fun h => Bool.noConfusion h⟩, rfl, rfl, hR⟩
            · -- 6
              simp only [List.getElem?_toArray, List.getElem?_cons_succ, List.getElem?_cons_zero, Option.some.injEq] at ho
              subst ho
              have hbi : b6 = false := by simpa using hun
              subst hbi
              have hd1 : b1 = true := by have := hdep ⟨1, .data⟩ (by simp) rfl; simpa using this
              have hd5 : b5 = true := by have := hdep ⟨5, .data⟩ (by simp) rfl; simpa using this
              have hd4 : b4 = true := (e5 hd5)
              have hd3 : b3 = true := (e4 hd4).2
              have hd2 : b2 = true := (e4 hd4).1
              have hd0 : b0 = true := (e1 hd1)
              subst hd0 hd1 hd2 hd3 hd4 hd5
              obtain rfl : b7 = false := Bool.eq_false_iff.2 (fun h => Bool.noConfusion (e7 h))
              obtain rfl : b8 = false := Bool.eq_false_iff.2 (fun h => Bool.noConfusion (e8 h))
              refine wpOpIn_step rfl (fun K hK => ?_)
              clear hun hdep hi
              go_simp
              refine ⟨trivial, (callsIn_wide.2 (HPK.out w' (HBX.out.trans (hR.1.mono HBX.out.size)))).mono ?_⟩
              rintro e w'' ⟨yg, ycap, yus, rfl, hf, hb⟩
              refine hK _ _ ⟨true, true, true, true, true, true, true, false, false, .slice (some ⟨yg, 0, none⟩) _ ycap, ⟨fun _ => rfl, fun _ => ⟨rfl, rfl⟩, fun _ => rfl, fun _ => ⟨rfl, rfl⟩, fun h => Bool.noConfusion h, fun h => Bool.noConfusion h⟩, rfl, rfl, ⟨hR.1.trans (hb.mono hR.1.size), fun _ => hf.own.rows' HIK.out⟩⟩
            · -- 7
              simp only [List.getElem?_toArray, List.getElem?_cons_succ, List.getElem?_cons_zero, Option.some.injEq] at ho
              subst ho
              have hbi : b7 = false := by simpa using hun
              subst hbi
              have hd6 : b6 = true := by have := hdep ⟨6, .data⟩ (by simp) rfl; simpa using this
              have hd5 : b5 = true := (e6 hd6).2
              have hd4 : b4 = true := (e5 hd5)
              have hd3 : b3 = true := (e4 hd4).2
              have hd2 : b2 = true := (e4 hd4).1
              have hd1 : b1 = true := (e6 hd6).1
              have hd0 : b0 = true := (e1 hd1)
              subst hd0 hd1 hd2 hd3 hd4 hd5 hd6
              obtain rfl : b8 = false := Bool.eq_false_iff.2 (fun h => Bool.noConfusion (e8 h))
              refine wpOpIn_step rfl (fun K hK => ?_)
              clear hun hdep hi
              go_simp
              refine ⟨trivial, (callsIn_wide.2 (HDK.out w' v (hR.2 rfl))).mono ?_⟩
              rintro e w'' ⟨rfl, hb⟩
              refine hK _ _ ⟨true, true, true, true, true, true, true, true, false, v, ⟨fun _ => rfl, fun _ => ⟨rfl, rfl⟩, fun _ => rfl, fun _ => ⟨rfl, rfl⟩, fun _ => rfl, fun h => Bool.noConfusion h⟩, rfl, rfl, ⟨hR.1.trans (hb.mono hR.1.size), fun h => (hR.2 h).below hb⟩⟩
            · -- 8
              simp only [List.getElem?_toArray, List.getElem?_cons_succ, List.getElem?_cons_zero, Option.some.injEq] at ho
              subst ho
              have hbi : b8 = false := by simpa using hun
              subst hbi
              have hd7 : b7 = true := by have := hdep ⟨7, .data⟩ (by simp) rfl; simpa using this
              have hd6 : b6 = true := (e7 hd7)
              have hd5 : b5 = true := (e6 hd6).2
              have hd4 : b4 = true := (e5 hd5)
              have hd3 : b3 = true := (e4 hd4).2
              have hd2 : b2 = true := (e4 hd4).1
              have hd1 : b1 = true := (e6 hd6).1
              have hd0 : b0 = true := (e1 hd1)
              subst hd0 hd1 hd2 hd3 hd4 hd5 hd6 hd7
              refine wpOpIn_step rfl (fun K hK => ?_)
              clear hun hdep hi
              go_simp
              refine hK _ _ ⟨true, true, true, true, true, true, true, true, true, v, ⟨fun _ => rfl, fun _ => ⟨rfl, rfl⟩, fun _ => rfl, fun _ => ⟨rfl, rfl⟩, fun _ => rfl, fun _ => rfl⟩, rfl, rfl, hR⟩
      · exact ⟨false, false, false, false, false, false, false, false, false, false, false, false, false, by simp, rfl, rfl, (Below.refl _ _).drew⟩
      · rintro listed ac w' i oi ⟨b0, b1, b2, b3, b4, b5, b6, b7, b8, b9, b10, b11, b12, ⟨e3, e4, e5, e6, e7, e8, e9, e10, e11, e12⟩, rfl, rfl, hR⟩ ho hun hdep
        have hi : i < 13 := by simpa using (Array.getElem?_eq_some_iff.1 ho).1
        obtain rfl | rfl | rfl | rfl | rfl | rfl | rfl | rfl | rfl | rfl | rfl | rfl | rfl : i = 0 ∨ i = 1 ∨ i = 2 ∨ i = 3 ∨ i = 4 ∨ i = 5 ∨ i = 6 ∨ i = 7 ∨ i = 8 ∨ i = 9 ∨ i = 10 ∨ i = 11 ∨ i = 12 := by omega
        · -- 0
          simp only [List.getElem?_toArray, List.getElem?_cons_zero, Option.some.injEq] at ho
          subst ho
          have hbi : b0 = false := by simpa using hun
          subst hbi
          obtain rfl : b5 = false := Bool.eq_false_iff.2 (fun h => Bool.noConfusion (e5 h).1)
          obtain rfl : b6 = false := Bool.eq_false_iff.2 (fun h => Bool.noConfusion (e6 h))
          obtain rfl : b7 = false := Bool.eq_false_iff.2 (fun h => Bool.noConfusion (e7 h))
          obtain rfl : b8 = false := Bool.eq_false_iff.2 (fun h => Bool.noConfusion (e8 h))
          obtain rfl : b9 = false := Bool.eq_false_iff.2 (fun h => Bool.noConfusion (e9 h))
          obtain rfl : b10 = false := Bool.eq_false_iff.2 (fun h => Bool.noConfusion (e10 h))
          obtain rfl : b11 = false := Bool.eq_false_iff.2 (fun h => Bool.noConfusion (e11 h).1)
          obtain rfl : b12 = false := Bool.eq_false_iff.2 (fun h => Bool.noConfusion (e12 h).1)
          refine wpOpIn_step rfl (fun K hK => ?_)
          clear hun hdep hi
          have k0 := (hR.cell (p := ⟨w.heap.size, 0, none⟩) hzr).trans x0
          have k1 := (hR.cell (p := ⟨w.heap.size, 1, none⟩) hzr).trans x1
          go_simp
          refine hK _ _ ⟨true, b1, b2, b3, b4, false, false, false, false, false, false, false, false, ⟨e3, e4, fun h => Bool.noConfusion h, fun h => Bool.noConfusion h, fun h => Bool.noConfusion h, fun h => Bool.noConfusion h, fun h => Bool.noConfusion h, fun h => Bool.noConfusion h, fun h => Bool.noConfusion h, fun h => Bool.noConfusion h⟩, rfl, rfl, hR⟩
        · -- 1
          simp only [List.getElem?_toArray, List.getElem?_cons_succ, List.getElem?_cons_zero, Option.some.injEq] at ho
          subst ho
          have hbi : b1 = false := by simpa using hun
          subst hbi
          obtain rfl : b3 = false := Bool.eq_false_iff.2 (fun h => Bool.noConfusion (e3 h).1)
          obtain rfl : b4 = false := Bool.eq_false_iff.2 (fun h => Bool.noConfusion (e4 h))
          obtain rfl : b5 = false := Bool.eq_false_iff.2 (fun h => Bool.noConfusion (e5 h).2)
          obtain rfl : b6 = false := Bool.eq_false_iff.2 (fun h => Bool.noConfusion (e6 h))
          obtain rfl : b7 = false := Bool.eq_false_iff.2 (fun h => Bool.noConfusion (e7 h))
          obtain rfl : b8 = false := Bool.eq_false_iff.2 (fun h => Bool.noConfusion (e8 h))
          obtain rfl : b9 = false := Bool.eq_false_iff.2 (fun h => Bool.noConfusion (e9 h))
          obtain rfl : b10 = false := Bool.eq_false_iff.2 (fun h => Bool.noConfusion (e10 h))
          obtain rfl : b11 = false := Bool.eq_false_iff.2 (fun h => Bool.noConfusion (e11 h).1)
          obtain rfl : b12 = false := Bool.eq_false_iff.2 (fun h => Bool.noConfusion (e12 h).1)
          refine wpOpIn_step rfl (fun K hK => ?_)
          clear hun hdep hi
          go_simp
          refine hK _ _ ⟨b0, true, b2, false, false, false, false, false, false, false, false, false, false, ⟨fun h => Bool.noConfusion h, fun h => Bool.noConfusion h, fun h => Bool.noConfusion h, fun h => Bool.noConfusion h, fun h => Bool.noConfusion h, fun h => Bool.noConfusion h, fun h => Bool.noConfusion h, fun h => Bool.noConfusion h, fun h => Bool.noConfusion h, fun h => Bool.noConfusion h⟩, rfl, rfl, hR⟩
        · -- 2
          simp only [List.getElem?_toArray, List.getElem?_cons_succ, List.getElem?_cons_zero, Option.some.injEq] at ho
          subst ho
          have hbi : b2 = false := by simpa using hun
          subst hbi
          obtain rfl : b3 = false := Bool.eq_false_iff.2 (fun h => Bool.noConfusion (e3 h).2)
          obtain rfl : b4 = false := Bool.eq_false_iff.2 (fun h => Bool.noConfusion (e4 h))
          obtain rfl : b5 = false := Bool.eq_false_iff.2 (fun h => Bool.noConfusion (e5 h).2)
          obtain rfl : b6 = false := Bool.eq_false_iff.2 (fun h => Bool.noConfusion (e6 h))
          obtain rfl : b7 = false := Bool.eq_false_iff.2 (fun h => Bool.noConfusion (e7 h))
          obtain rfl : b8 = false := Bool.eq_false_iff.2 (fun h => Bool.noConfusion (e8 h))
          obtain rfl : b9 = false := Bool.eq_false_iff.2 (fun h => Bool.noConfusion (e9 h))
          obtain rfl : b10 = false := Bool.eq_false_iff.2 (fun h => Bool.noConfusion (e10 h))
          obtain rfl : b11 = false := Bool.eq_false_iff.2 (fun h => Bool.noConfusion (e11 h).1)
          obtain rfl : b12 = false := Bool.eq_false_iff.2 (fun h => Bool.noConfusion (e12 h).1)
          refine wpOpIn_step rfl (fun K hK => ?_)
          clear hun hdep hi
          go_simp
          refine hK _ _ ⟨b0, b1, true, false, false, false, false, false, false, false, false, false, false, ⟨fun h => Bool.noConfusion h, fun h => Bool.noConfusion h, fun h => Bool.noConfusion h, fun h => Bool.noConfusion h, fun h => Bool.noConfusion h, fun h => Bool.noConfusion h, fun h => Bool.noConfusion h, fun h => Bool.noConfusion h, fun h => Bool.noConfusion h, fun h => Bool.noConfusion h⟩, rfl, rfl, hR⟩
        · -- 3
          simp only [List.getElem?_toArray, List.getElem?_cons_succ, List.getElem?_cons_zero, Option.some.injEq] at ho
          subst ho
          have hbi : b3 = false := by simpa using hun
          subst hbi
          have hd1 : b1 = true := by have := hdep ⟨1, .data⟩ (by simp) rfl; simpa using this
          have hd2 : b2 = true := by have := hdep ⟨2, .data⟩ (by simp) rfl; simpa using this
          subst hd1 hd2
          obtain rfl : b4 = false := Bool.eq_false_iff.2 (fun h => Bool.noConfusion (e4 h))
          obtain rfl : b5 = false := Bool.eq_false_iff.2 (fun h => Bool.noConfusion (e5 h).2)
          obtain rfl : b6 = false := Bool.eq_false_iff.2 (fun h => Bool.noConfusion (e6 h))
          obtain rfl : b7 = false := Bool.eq_false_iff.2 (fun h => Bool.noConfusion (e7 h))
          obtain rfl : b8 = false := Bool.eq_false_iff.2 (fun h => Bool.noConfusion (e8 h))
          obtain rfl : b9 = false := Bool.eq_false_iff.2 (fun h => Bool.noConfusion (e9 h))
          obtain rfl : b10 = false := Bool.eq_false_iff.2 (fun h => Bool.noConfusion (e10 h))
          obtain rfl : b11 = false := Bool.eq_false_iff.2 (fun h => Bool.noConfusion (e11 h).1)
          obtain rfl : b12 = false := Bool.eq_false_iff.2 (fun h => Bool.noConfusion (e12 h).1)
          refine wpOpIn_step rfl (fun K hK => ?_)
          clear hun hdep hi
          go_simp
          refine hK _ _ ⟨b0, true, true, true, false, false, false, false, false, false, false, false, false, ⟨fun _ => ⟨rfl, rfl⟩, fun h => Bool.noConfusion h, fun h => Bool.noConfusion h, fun h => Bool.noConfusion h, fun h => Bool.noConfusion h, fun h => Bool.noConfusion h, fun h => Bool.noConfusion h, fun h => Bool.noConfusion h, fun h => Bool.noConfusion h, fun h => Bool.noConfusion h⟩, rfl, rfl, hR⟩
        · -- 4
          simp only [List.getElem?_toArray, List.getElem?_cons_succ, List.getElem?_cons_zero, Option.some.injEq] at ho
          subst ho
          have hbi : b4 = false := by simpa using hun
          subst hbi
          have hd3 : b3 = true := by have := hdep ⟨3, .data⟩ (by simp) rfl; simpa using this
          have hd2 : b2 = true := (e3 hd3).2
          have hd1 : b1 = true := (e3 hd3).1
          subst hd1 hd2 hd3
          obtain rfl : b5 = false := Bool.eq_false_iff.2 (fun h => Bool.noConfusion (e5 h).2)
          obtain rfl : b6 = false := Bool.eq_false_iff.2 (fun h => Bool.noConfusion (e6 h))
          obtain rfl : b7 = false := Bool.eq_false_iff.2 (fun h => Bool.noConfusion (e7 h))
          obtain rfl : b8 = false := Bool.eq_false_iff.2 (fun h => Bool.noConfusion (e8 h))
          obtain rfl : b9 = false := Bool.eq_false_iff.2 (fun h => Bool.noConfusion (e9 h))
          obtain rfl : b10 = false := Bool.eq_false_iff.2 (fun h => Bool.noConfusion (e10 h))
          obtain rfl : b11 = false := Bool.eq_false_iff.2 (fun h => Bool.noConfusion (e11 h).1)
          obtain rfl : b12 = false := Bool.eq_false_iff.2 (fun h => Bool.noConfusion (e12 h).1)
          refine wpOpIn_step rfl (fun K hK => ?_)
          clear hun hdep hi
          have k0 := (hR.cell (p := ⟨g, k, none⟩) hgr).trans ck
          go_simp
          refine hK _ _ ⟨b0, true, true, true, true, false, false, false, false, false, false, false, false, ⟨fun _ => ⟨rfl, rfl⟩, fun _ => rfl, fun h => Bool.noConfusion h, fun h => Bool.noConfusion h, fun h => Bool.noConfusion h, fun h => Bool.noConfusion h, fun h => Bool.noConfusion h, fun h => Bool.noConfusion h, fun h => Bool.noConfusion h, fun h => Bool.noConfusion h⟩, rfl, rfl, hR⟩
        · -- 5
          simp only [List.getElem?_toArray, List.getElem?_cons_succ, List.getElem?_cons_zero, Option.some.injEq] at ho
          subst ho
          have hbi : b5 = false := by simpa using hun
          subst hbi
          have hd0 : b0 = true := by have := hdep ⟨0, .data⟩ (by simp) rfl; simpa using this
          have hd4 : b4 = true := by have := hdep ⟨4, .data⟩ (by simp) rfl; simpa using this
          have hd3 : b3 = true := (e4 hd4)
          have hd2 : b2 = true := (e3 hd3).2
          have hd1 : b1 = true := (e3 hd3).1
          subst hd0 hd1 hd2 hd3 hd4
          obtain rfl : b6 = false := Bool.eq_false_iff.2 (fun h => Bool.noConfusion (e6 h))
          obtain rfl : b7 = false := Bool.eq_false_iff.2 (fun h => Bool.noConfusion (e7 h))
          obtain rfl : b8 = false := Bool.eq_false_iff.2 (fun h => Bool.noConfusion (e8 h))
          obtain rfl : b9 = false := Bool.eq_false_iff.2 (fun h => Bool.noConfusion (e9 h))
          obtain rfl : b10 = false := Bool.eq_false_iff.2 (fun h => Bool.noConfusion (e10 h))
          obtain rfl : b11 = false := Bool.eq_false_iff.2 (fun h => Bool.noConfusion (e11 h).1)
          obtain rfl : b12 = false := Bool.eq_false_iff.2 (fun h => Bool.noConfusion (e12 h).1)
          refine wpOpIn_step rfl (fun K hK => ?_)
          clear hun hdep hi
          go_simp
          refine ⟨trivial, (callsIn_wide.2 (HCK.out w' (HBW.out.trans (hR.mono HBW.out.size)))).mono ?_⟩
          rintro e w'' ⟨rfl, hb⟩
          refine hK _ _ ⟨true, true, true, true, true, true, false, false, false, false, false, false, false, ⟨fun _ => ⟨rfl, rfl⟩, fun _ => rfl, fun _ => ⟨rfl, rfl⟩, fun h => Bool.noConfusion h, fun h => Bool.noConfusion h, fun h => Bool.noConfusion h, fun h => Bool.noConfusion h, fun h => Bool.noConfusion h, fun h => Bool.noConfusion h, fun h => Bool.noConfusion h⟩, rfl, rfl, hR.trans (hb.mono hR.size)⟩
        · -- 6
          simp only [List.getElem?_toArray, List.getElem?_cons_succ, List.getElem?_cons_zero, Option.some.injEq] at ho
          subst ho
          have hbi : b6 = false := by simpa using hun
          subst hbi
          have hd5 : b5 = true := by have := hdep ⟨5, .data⟩ (by simp) rfl; simpa using this
          have hd4 : b4 = true := (e5 hd5).2
          have hd3 : b3 = true := (e4 hd4)
          have hd2 : b2 = true := (e3 hd3).2
          have hd1 : b1 = true := (e3 hd3).1
          have hd0 : b0 = true := (e5 hd5).1
          subst hd0 hd1 hd2 hd3 hd4 hd5
          obtain rfl : b7 = false := Bool.eq_false_iff.2 (fun h => Bool.noConfusion (e7 h))
          obtain rfl : b8 = false := Bool.eq_false_iff.2 (fun h => Bool.noConfusion (e8 h))
          obtain rfl : b9 = false := Bool.eq_false_iff.2 (fun h => Bool.noConfusion (e9 h))
          obtain rfl : b10 = false := Bool.eq_false_iff.2 (fun h => Bool.noConfusion (e10 h))
          obtain rfl : b11 = false := Bool.eq_false_iff.2 (fun h => Bool.noConfusion (e11 h).1)
          obtain rfl : b12 = false := Bool.eq_false_iff.2 (fun h => Bool.noConfusion (e12 h).1)
          refine wpOpIn_step rfl (fun K hK => ?_)
          clear hun hdep hi
          go_simp
          refine hK _ _ ⟨true, true, true, true, true, true, true, false, false, false, false, false, false, ⟨fun _ => ⟨rfl, rfl⟩, fun _ => rfl, fun _ => ⟨rfl, rfl⟩, fun _ => rfl, fun h => Bool.noConfusion h, fun h => Bool.noConfusion h, fun h => Bool.noConfusion h, fun h => Bool.noConfusion h, fun h => Bool.noConfusion h, fun h => Bool.noConfusion h⟩, rfl, rfl, hR⟩
        · -- 7
          simp only [List.getElem?_toArray, List.getElem?_cons_succ, List.getElem?_cons_zero, Option.some.injEq] at ho
          subst ho
          have hbi : b7 = false := by simpa using hun
          subst hbi
          have hd6 : b6 = true := by have := hdep ⟨6, .data⟩ (by simp) rfl; simpa using this
          have hd5 : b5 = true := (e6 hd6)
          have hd4 : b4 = true := (e5 hd5).2
          have hd3 : b3 = true := (e4 hd4)
          have hd2 : b2 = true := (e3 hd3).2
          have hd1 : b1 = true := (e3 hd3).1
          have hd0 : b0 = true := (e5 hd5).1
          subst hd0 hd1 hd2 hd3 hd4 hd5 hd6
          obtain rfl : b10 = false := Bool.eq_false_iff.2 (fun h => Bool.noConfusion (e10 h))
          obtain rfl : b11 = false := Bool.eq_false_iff.2 (fun h => Bool.noConfusion (e11 h).2)
          obtain rfl : b12 = false := Bool.eq_false_iff.2 (fun h => Bool.noConfusion (e12 h).2)
          refine wpOpIn_step rfl (fun K hK => ?_)
          clear hun hdep hi
          go_simp
          refine hK _ _ ⟨true, true, true, true, true, true, true, true, b8, b9, false, false, false, ⟨fun _ => ⟨rfl, rfl⟩, fun _ => rfl, fun _ => ⟨rfl, rfl⟩, fun _ => rfl, fun _ => rfl, e8, e9, fun h => Bool.noConfusion h, fun h => Bool.noConfusion h, fun h => Bool.noConfusion h⟩, rfl, rfl, hR⟩
        · -- 8
          simp only [List.getElem?_toArray, List.getElem?_cons_succ, List.getElem?_cons_zero, Option.some.injEq] at ho
          subst ho
          have hbi : b8 = false := by simpa using hun
          subst hbi
          have hd6 : b6 = true := by have := hdep ⟨6, .data⟩ (by simp) rfl; simpa using this
          have hd5 : b5 = true := (e6 hd6)
          have hd4 : b4 = true := (e5 hd5).2
          have hd3 : b3 = true := (e4 hd4)
          have hd2 : b2 = true := (e3 hd3).2
          have hd1 : b1 = true := (e3 hd3).1
          have hd0 : b0 = true := (e5 hd5).1
          subst hd0 hd1 hd2 hd3 hd4 hd5 hd6
          obtain rfl : b11 = false := Bool.eq_false_iff.2 (fun h => Bool.noConfusion (e11 h).1)
          obtain rfl : b12 = false := Bool.eq_false_iff.2 (fun h => Bool.noConfusion (e12 h).2)
          refine wpOpIn_step rfl (fun K hK => ?_)
          clear hun hdep hi
          go_simp
          refine hK _ _ ⟨true, true, true, true, true, true, true, b7, true, b9, b10, false, false, ⟨fun _ => ⟨rfl, rfl⟩, fun _ => rfl, fun _ => ⟨rfl, rfl⟩, fun _ => rfl, e7, fun _ => rfl, e9, e10, fun h => Bool.noConfusion h, fun h => Bool.noConfusion h⟩, rfl, rfl, hR⟩
        · -- 9
          simp only [List.getElem?_toArray, List.getElem?_cons_succ, List.getElem?_cons_zero, Option.some.injEq] at ho
          subst ho
          have hbi : b9 = false := by simpa using hun
          subst hbi
          have hd6 : b6 = true := by have := hdep ⟨6, .data⟩ (by simp) rfl; simpa using this
          have hd5 : b5 = true := (e6 hd6)
          have hd4 : b4 = true := (e5 hd5).2
          have hd3 : b3 = true := (e4 hd4)
          have hd2 : b2 = true := (e3 hd3).2
          have hd1 : b1 = true := (e3 hd3).1
          have hd0 : b0 = true := (e5 hd5).1
          subst hd0 hd1 hd2 hd3 hd4 hd5 hd6
          obtain rfl : b12 = false := Bool.eq_false_iff.2 (fun h => Bool.noConfusion (e12 h).1)
          refine wpOpIn_step rfl (fun K hK => ?_)
          clear hun hdep hi
          go_simp
          refine hK _ _ ⟨true, true, true, true, true, true, true, b7, b8, true, b10, b11, false, ⟨fun _ => ⟨rfl, rfl⟩, fun _ => rfl, fun _ => ⟨rfl, rfl⟩, fun _ => rfl, e7, e8, fun _ => rfl, e10, e11, fun h => Bool.noConfusion h⟩, rfl, rfl, hR⟩
        · -- 10
          simp only [List.getElem?_toArray, List.getElem?_cons_succ, List.getElem?_cons_zero, Option.some.injEq] at ho
          subst ho
          have hbi : b10 = false := by simpa using hun
          subst hbi
          have hd7 : b7 = true := by have := hdep ⟨7, .data⟩ (by simp) rfl; simpa using this
          have hd6 : b6 = true := (e7 hd7)
          have hd5 : b5 = true := (e6 hd6)
          have hd4 : b4 = true := (e5 hd5).2
          have hd3 : b3 = true := (e4 hd4)
          have hd2 : b2 = true := (e3 hd3).2
          have hd1 : b1 = true := (e3 hd3).1
          have hd0 : b0 = true := (e5 hd5).1
          subst hd0 hd1 hd2 hd3 hd4 hd5 hd6 hd7
          obtain rfl : b11 = false := Bool.eq_false_iff.2 (fun h => Bool.noConfusion (e11 h).2)
          obtain rfl : b12 = false := Bool.eq_false_iff.2 (fun h => Bool.noConfusion (e12 h).2)
          refine wpOpIn_step rfl (fun K hK => ?_)
          clear hun hdep hi
          go_simp
          refine hK _ _ ⟨true, true, true, true, true, true, true, true, b8, b9, true, false, false, ⟨fun _ => ⟨rfl, rfl⟩, fun _ => rfl, fun _ => ⟨rfl, rfl⟩, fun _ => rfl, fun _ => rfl, e8, e9, fun _ => rfl, fun h => Bool.noConfusion h, fun h => Bool.noConfusion h⟩, rfl, rfl, hR⟩
        · -- 11
          simp only [List.getElem?_toArray, List.getElem?_cons_succ, List.getElem?_cons_zero, Option.some.injEq] at ho
          subst ho
          have hbi : b11 = false := by simpa using hun
          subst hbi
          have hd8 : b8 = true := by have := hdep ⟨8, .data⟩ (by simp) rfl; simpa using this
          have hd10 : b10 = true := by have := hdep ⟨10, .chain⟩ (by simp) rfl; simpa using this
          have hd7 : b7 = true := (e10 hd10)
          have hd6 : b6 = true := (e7 hd7)
          have hd5 : b5 = true := (e6 hd6)
          have hd4 : b4 = true := (e5 hd5).2
          have hd3 : b3 = true := (e4 hd4)
          have hd2 : b2 = true := (e3 hd3).2
          have hd1 : b1 = true := (e3 hd3).1
          have hd0 : b0 = true := (e5 hd5).1
          subst hd0 hd1 hd2 hd3 hd4 hd5 hd6 hd7 hd8 hd10
          obtain rfl : b12 = false := Bool.eq_false_iff.2 (fun h => Bool.noConfusion (e12 h).2)
          refine wpOpIn_step rfl (fun K hK => ?_)
          clear hun hdep hi
          go_simp
          refine hK _ _ ⟨true, true, true, true, true, true, true, true, true, b9, true, true, false, ⟨fun _ => ⟨rfl, rfl⟩, fun _ => rfl, fun _ => ⟨rfl, rfl⟩, fun _ => rfl, fun _ => rfl, fun _ => rfl, e9, fun _ => rfl, fun _ => ⟨rfl, rfl⟩, fun h => Bool.noConfusion h⟩, rfl, rfl, hR⟩
        · -- 12
          simp only [List.getElem?_toArray, List.getElem?_cons_succ, List.getElem?_cons_zero, Option.some.injEq] at ho
          subst ho
          have hbi : b12 = false := by simpa using hun
          subst hbi
          have hd9 : b9 = true := by have := hdep ⟨9, .data⟩ (by simp) rfl; simpa using this
          have hd11 : b11 = true := by have := hdep ⟨11, .chain⟩ (by simp) rfl; simpa using this
          have hd10 : b10 = true := (e11 hd11).2
          have hd8 : b8 = true := (e11 hd11).1
          have hd7 : b7 = true := (e10 hd10)
          have hd6 : b6 = true := (e7 hd7)
          have hd5 : b5 = true := (e6 hd6)
          have hd4 : b4 = true := (e5 hd5).2
          have hd3 : b3 = true := (e4 hd4)
          have hd2 : b2 = true := (e3 hd3).2
          have hd1 : b1 = true := (e3 hd3).1
          have hd0 : b0 = true := (e5 hd5).1
          subst hd0 hd1 hd2 hd3 hd4 hd5 hd6 hd7 hd8 hd9 hd10 hd11
          refine wpOpIn_step rfl (fun K hK => ?_)
          clear hun hdep hi
          go_simp
          refine hK _ _ ⟨true, true, true, true, true, true, true, true, true, true, true, true, true, ⟨fun _ => ⟨rfl, rfl⟩, fun _ => rfl, fun _ => ⟨rfl, rfl⟩, fun _ => rfl, fun _ => rfl, fun _ => rfl, fun _ => rfl, fun _ => rfl, fun _ => ⟨rfl, rfl⟩, fun _ => ⟨rfl, rfl⟩⟩, rfl, rfl, hR⟩
    · obtain rfl : k = n := by omega
      have HO := Lib.hid (HO1.out (fun j hj => HALL.out j hj))
      clear hB hbw
      go_wp2_with fail
      go_ret2
      exact ⟨by rw [HO.out]; rfl, HBW.out⟩

set_option maxHeartbeats 1000000 in
theorem specDegreeAt_any (m q : Value) (M : List (List Int)) (Q : List Int) (w : World) (h1 : PM.Rows w m M) (h2 : Ints w q Q) :
    Calls Try.prog 51 #[.agg #[m, q]] w (OutN w (dgOut M Q)) := by
  cases hp : isPB M Q
  · have g1 := fun (w' : World) (h : Below w.heap.size w w') => h1.below h
    have g2 := fun (w' : World) (h : Below w.heap.size w w') => h2.below h
    obtain ⟨a1, c1, rfl, _⟩ := h1
    obtain ⟨a2, c2, rfl, _⟩ := h2
    rw [dgOut_no hp]
    have HP := Lib.hid hp
    clear hp
    go_enter Try.func51, Try.ntmps51
    go_wp2_with fail
    refine (l01Is_any _ _ M Q _ (g1 _ (by (repeat' (first | (with_reducible exact Below.refl _ _) | (with_reducible assumption) | (with_reducible refine Below.alloc ?_ ?_ _) | (with_reducible refine Below.drew ?_) | (with_reducible refine below_drewN ?_ _) | (with_reducible refine Below.setCell ?_ ?_ _) | (with_reducible refine Below.trans ?_ (Below.mono (by with_reducible assumption) ?_)) | (with_reducible exact Below.size (by with_reducible assumption)) | go_size)))) (g2 _ (by (repeat' (first | (with_reducible exact Below.refl _ _) | (with_reducible assumption) | (with_reducible refine Below.alloc ?_ ?_ _) | (with_reducible refine Below.drew ?_) | (with_reducible refine below_drewN ?_ _) | (with_reducible refine Below.setCell ?_ ?_ _) | (with_reducible refine Below.trans ?_ (Below.mono (by with_reducible assumption) ?_)) | (with_reducible exact Below.size (by with_reducible assumption)) | go_size))))).mono ?_; rw [HP.out]; rintro e w1 ⟨rfl, hb1⟩; obtain ⟨hc_hb1, hf_hb1⟩ := bcell hb1; obtain ⟨hcA_hb1, hfA_hb1⟩ := bcellG (W0 := w) hb1 (by (repeat' (first | (with_reducible exact Below.refl _ _) | (with_reducible assumption) | (with_reducible refine Below.alloc ?_ ?_ _) | (with_reducible refine Below.drew ?_) | (with_reducible refine below_drewN ?_ _) | (with_reducible refine Below.setCell ?_ ?_ _) | (with_reducible refine Below.trans ?_ (Below.mono (by with_reducible assumption) ?_)) | (with_reducible exact Below.size (by with_reducible assumption)) | go_size))); have hz_hb1 := hb1.size; (try simp at hz_hb1); (try simp only [Nat.add_one_le_iff] at hz_hb1); have hz0_hb1 : w.heap.size < w1.heap.size := (by omega)
    go_wp2_with fail
    go_ret2
    exact ⟨rfl, by (repeat' (first | (with_reducible exact Below.refl _ _) | (with_reducible assumption) | (with_reducible refine Below.alloc ?_ ?_ _) | (with_reducible refine Below.drew ?_) | (with_reducible refine below_drewN ?_ _) | (with_reducible refine Below.setCell ?_ ?_ _) | (with_reducible refine Below.trans ?_ (Below.mono (by with_reducible assumption) ?_)) | (with_reducible exact Below.size (by with_reducible assumption)) | go_size))⟩
  · exact specDegreeAt_ok m q M Q w h1 h2 hp
set_option maxHeartbeats 4000000 in
theorem law_FnExactDegreeAt (m q : Value) (M : List (List Int)) (Q : List Int) (w : World) (h1 : PM.Rows w m M) (h2 : Ints w q Q) :
    Calls Try.prog 14 #[.agg #[m, q]] w fun e w' => e = .returned (.bool true) ∧ Below w.heap.size w w' := by
  have g1 := fun (w' : World) (h : Below w.heap.size w w') => h1.below h
  have g2 := fun (w' : World) (h : Below w.heap.size w w') => h2.below h
  have I1 := Lib.hid (rows_I64 h1)
  have I2 := Lib.hid (ints_I64 h2)
  obtain ⟨a1, c1, rfl, _⟩ := h1
  obtain ⟨a2, c2, rfl, _⟩ := h2
  by_cases hz : szP M Q 1048576 < 0
  · have e1 := szP_neg hz
    have E1 := Lib.hid e1
    clear hz e1
    go_enter Try.func14, Try.ntmps14
    go_wp2_with fail
    refine (szProblem_any _ _ M Q _ (g1 _ (by (repeat' (first | (with_reducible exact Below.refl _ _) | (with_reducible assumption) | (with_reducible refine Below.alloc ?_ ?_ _) | (with_reducible refine Below.drew ?_) | (with_reducible refine below_drewN ?_ _) | (with_reducible refine Below.setCell ?_ ?_ _) | (with_reducible refine Below.trans ?_ (Below.mono (by with_reducible assumption) ?_)) | (with_reducible exact Below.size (by with_reducible assumption)) | go_size)))) (g2 _ (by (repeat' (first | (with_reducible exact Below.refl _ _) | (with_reducible assumption) | (with_reducible refine Below.alloc ?_ ?_ _) | (with_reducible refine Below.drew ?_) | (with_reducible refine below_drewN ?_ _) | (with_reducible refine Below.setCell ?_ ?_ _) | (with_reducible refine Below.trans ?_ (Below.mono (by with_reducible assumption) ?_)) | (with_reducible exact Below.size (by with_reducible assumption)) | go_size))))).mono ?_; rw [E1.out]; rintro e w1 ⟨rfl, hb1⟩; obtain ⟨hc_hb1, hf_hb1⟩ := bcell hb1; obtain ⟨hcA_hb1, hfA_hb1⟩ := bcellG (W0 := w) hb1 (by (repeat' (first | (with_reducible exact Below.refl _ _) | (with_reducible assumption) | (with_reducible refine Below.alloc ?_ ?_ _) | (with_reducible refine Below.drew ?_) | (with_reducible refine below_drewN ?_ _) | (with_reducible refine Below.setCell ?_ ?_ _) | (with_reducible refine Below.trans ?_ (Below.mono (by with_reducible assumption) ?_)) | (with_reducible exact Below.size (by with_reducible assumption)) | go_size))); have hz_hb1 := hb1.size; (try simp at hz_hb1); (try simp only [Nat.add_one_le_iff] at hz_hb1); have hz0_hb1 : w.heap.size < w1.heap.size := (by omega)
    go_wp2_with fail
    go_ret
    refine ⟨rfl, ?_⟩
    (repeat' (first | (with_reducible exact Below.refl _ _) | (with_reducible assumption) | (with_reducible refine Below.alloc ?_ ?_ _) | (with_reducible refine Below.drew ?_) | (with_reducible refine below_drewN ?_ _) | (with_reducible refine Below.setCell ?_ ?_ _) | (with_reducible refine Below.trans ?_ (Below.mono (by with_reducible assumption) ?_)) | (with_reducible exact Below.size (by with_reducible assumption)) | go_size))
  obtain ⟨hn1, hn2⟩ := szP_fits hz
  have hle := szP_le M Q
  have HN1 := Lib.hid hn1
  have HN2 := Lib.hid hn2
  clear hn1 hn2
  have hspec := fun (m q : Value) (w : World) (h1 : PM.Rows w m M) (h2 : Ints w q Q) => specDegreeAt_any m q M Q w h1 h2
  have himpl := fun (m q : Value) (w : World) (h1 : PM.Rows w m M) (h2 : Ints w q Q) => implDegreeAt_any m q M Q w h1 h2
  generalize dgOut M Q = o at *
  obtain ⟨O, code⟩ := o
  have HS := Lib.hid hspec
  have HI := Lib.hid himpl
  clear hspec himpl
  go_enter Try.func14, Try.ntmps14
  go_wp2_with fail
  refine (szProblem_any _ _ M Q _ (g1 _ (by (repeat' (first | (with_reducible exact Below.refl _ _) | (with_reducible assumption) | (with_reducible refine Below.alloc ?_ ?_ _) | (with_reducible refine Below.drew ?_) | (with_reducible refine below_drewN ?_ _) | (with_reducible refine Below.setCell ?_ ?_ _) | (with_reducible refine Below.trans ?_ (Below.mono (by with_reducible assumption) ?_)) | (with_reducible exact Below.size (by with_reducible assumption)) | go_size)))) (g2 _ (by (repeat' (first | (with_reducible exact Below.refl _ _) | (with_reducible assumption) | (with_reducible refine Below.alloc ?_ ?_ _) | (with_reducible refine Below.drew ?_) | (with_reducible refine below_drewN ?_ _) | (with_reducible refine Below.setCell ?_ ?_ _) | (with_reducible refine Below.trans ?_ (Below.mono (by with_reducible assumption) ?_)) | (with_reducible exact Below.size (by with_reducible assumption)) | go_size))))).mono ?_; rintro e w1 ⟨rfl, hb1⟩; obtain ⟨hc_hb1, hf_hb1⟩ := bcell hb1; obtain ⟨hcA_hb1, hfA_hb1⟩ := bcellG (W0 := w) hb1 (by (repeat' (first | (with_reducible exact Below.refl _ _) | (with_reducible assumption) | (with_reducible refine Below.alloc ?_ ?_ _) | (with_reducible refine Below.drew ?_) | (with_reducible refine below_drewN ?_ _) | (with_reducible refine Below.setCell ?_ ?_ _) | (with_reducible refine Below.trans ?_ (Below.mono (by with_reducible assumption) ?_)) | (with_reducible exact Below.size (by with_reducible assumption)) | go_size))); have hz_hb1 := hb1.size; (try simp at hz_hb1); (try simp only [Nat.add_one_le_iff] at hz_hb1); have hz0_hb1 : w.heap.size < w1.heap.size := (by omega)
  generalize szP M Q 1048576 = left at *
  have hw1 : Below w.heap.size w w1 := by (repeat' (first | (with_reducible exact Below.refl _ _) | (with_reducible assumption) | (with_reducible refine Below.alloc ?_ ?_ _) | (with_reducible refine Below.drew ?_) | (with_reducible refine below_drewN ?_ _) | (with_reducible refine Below.setCell ?_ ?_ _) | (with_reducible refine Below.trans ?_ (Below.mono (by with_reducible assumption) ?_)) | (with_reducible exact Below.size (by with_reducible assumption)) | go_size))
  go_wp2_with fail
  refine (toProblem_out _ _ M Q _ (g1 _ (by (repeat' (first | (with_reducible exact Below.refl _ _) | (with_reducible assumption) | (with_reducible refine Below.alloc ?_ ?_ _) | (with_reducible refine Below.drew ?_) | (with_reducible refine below_drewN ?_ _) | (with_reducible refine Below.setCell ?_ ?_ _) | (with_reducible refine Below.trans ?_ (Below.mono (by with_reducible assumption) ?_)) | (with_reducible exact Below.size (by with_reducible assumption)) | go_size)))) (g2 _ (by (repeat' (first | (with_reducible exact Below.refl _ _) | (with_reducible assumption) | (with_reducible refine Below.alloc ?_ ?_ _) | (with_reducible refine Below.drew ?_) | (with_reducible refine below_drewN ?_ _) | (with_reducible refine Below.setCell ?_ ?_ _) | (with_reducible refine Below.trans ?_ (Below.mono (by with_reducible assumption) ?_)) | (with_reducible exact Below.size (by with_reducible assumption)) | go_size)))) HN1.out HN2.out).mono ?_; rintro e w2 ⟨gA, gB, us2, rfl, hr2, hb2⟩; obtain ⟨hc_hb2, hf_hb2⟩ := bcell hb2; obtain ⟨hcA_hb2, hfA_hb2⟩ := bcellG (W0 := w1) hb2 (by (repeat' (first | (with_reducible exact Below.refl _ _) | (with_reducible assumption) | (with_reducible refine Below.alloc ?_ ?_ _) | (with_reducible refine Below.drew ?_) | (with_reducible refine below_drewN ?_ _) | (with_reducible refine Below.setCell ?_ ?_ _) | (with_reducible refine Below.trans ?_ (Below.mono (by with_reducible assumption) ?_)) | (with_reducible exact Below.size (by with_reducible assumption)) | go_size))); have hz_hb2 := hb2.size; (try simp at hz_hb2); (try simp only [Nat.add_one_le_iff] at hz_hb2); have hz0_hb2 : w.heap.size < w2.heap.size := (by omega)
  have R2 := Lib.hid (hr2.reads I1.out I2.out)
  clear hr2
  have hw2 : Below w.heap.size w w2 := hw1.trans (hb2.mono hw1.size)
  go_wp2_with fail
  refine (HS.out _ _ _ R2.out.1 R2.out.2).mono ?_; rintro e w3 ⟨rfl, hb3⟩; dsimp only; obtain ⟨hc_hb3, hf_hb3⟩ := bcell hb3; obtain ⟨hcA_hb3, hfA_hb3⟩ := bcellG (W0 := w2) hb3 (by (repeat' (first | (with_reducible exact Below.refl _ _) | (with_reducible assumption) | (with_reducible refine Below.alloc ?_ ?_ _) | (with_reducible refine Below.drew ?_) | (with_reducible refine below_drewN ?_ _) | (with_reducible refine Below.setCell ?_ ?_ _) | (with_reducible refine Below.trans ?_ (Below.mono (by with_reducible assumption) ?_)) | (with_reducible exact Below.size (by with_reducible assumption)) | go_size))); have hz_hb3 := hb3.size; (try simp at hz_hb3); (try simp only [Nat.add_one_le_iff] at hz_hb3); have hz0_hb3 : w.heap.size < w3.heap.size := (by omega)
  clear R2
  have hw3 : Below w.heap.size w w3 := hw2.trans (hb3.mono hw2.size)
  go_wp2_with fail
  refine (toProblem_out _ _ M Q _ (g1 _ (by (repeat' (first | (with_reducible exact Below.refl _ _) | (with_reducible assumption) | (with_reducible refine Below.alloc ?_ ?_ _) | (with_reducible refine Below.drew ?_) | (with_reducible refine below_drewN ?_ _) | (with_reducible refine Below.setCell ?_ ?_ _) | (with_reducible refine Below.trans ?_ (Below.mono (by with_reducible assumption) ?_)) | (with_reducible exact Below.size (by with_reducible assumption)) | go_size)))) (g2 _ (by (repeat' (first | (with_reducible exact Below.refl _ _) | (with_reducible assumption) | (with_reducible refine Below.alloc ?_ ?_ _) | (with_reducible refine Below.drew ?_) | (with_reducible refine below_drewN ?_ _) | (with_reducible refine Below.setCell ?_ ?_ _) | (with_reducible refine Below.trans ?_ (Below.mono (by with_reducible assumption) ?_)) | (with_reducible exact Below.size (by with_reducible assumption)) | go_size)))) HN1.out HN2.out).mono ?_; rintro e w4 ⟨gC, gD, us4, rfl, hr4, hb4⟩; obtain ⟨hc_hb4, hf_hb4⟩ := bcell hb4; obtain ⟨hcA_hb4, hfA_hb4⟩ := bcellG (W0 := w3) hb4 (by (repeat' (first | (with_reducible exact Below.refl _ _) | (with_reducible assumption) | (with_reducible refine Below.alloc ?_ ?_ _) | (with_reducible refine Below.drew ?_) | (with_reducible refine below_drewN ?_ _) | (with_reducible refine Below.setCell ?_ ?_ _) | (with_reducible refine Below.trans ?_ (Below.mono (by with_reducible assumption) ?_)) | (with_reducible exact Below.size (by with_reducible assumption)) | go_size))); have hz_hb4 := hb4.size; (try simp at hz_hb4); (try simp only [Nat.add_one_le_iff] at hz_hb4); have hz0_hb4 : w.heap.size < w4.heap.size := (by omega)
  have HR4 := Lib.hid hr4
  clear hr4
  have hw4 : Below w.heap.size w w4 := hw3.trans (hb4.mono hw3.size)
  go_wp2_with fail
  have hr4a := HR4.out.below (w' := w4.alloc (.cells #[.slice (some ⟨gC, 0, none⟩) M.length M.length, .slice (some ⟨gD, 0, none⟩) Q.length Q.length] 27)) (B := w4.heap.size) ((Below.refl _ _).alloc (Nat.le_refl _) _) (Nat.le_refl _)
  have R4 := Lib.hid (hr4a.reads I1.out I2.out)
  clear hr4a
  refine (HI.out _ _ _ R4.out.1 R4.out.2).mono ?_; rintro e w5 ⟨rfl, hb5⟩; dsimp only; obtain ⟨hc_hb5, hf_hb5⟩ := bcell hb5; obtain ⟨hcA_hb5, hfA_hb5⟩ := bcellG (W0 := w4) hb5 (by (repeat' (first | (with_reducible exact Below.refl _ _) | (with_reducible assumption) | (with_reducible refine Below.alloc ?_ ?_ _) | (with_reducible refine Below.drew ?_) | (with_reducible refine below_drewN ?_ _) | (with_reducible refine Below.setCell ?_ ?_ _) | (with_reducible refine Below.trans ?_ (Below.mono (by with_reducible assumption) ?_)) | (with_reducible exact Below.size (by with_reducible assumption)) | go_size))); have hz_hb5 := hb5.size; (try simp at hz_hb5); (try simp only [Nat.add_one_le_iff] at hz_hb5); have hz0_hb5 : w.heap.size < w5.heap.size := (by omega)
  have hz45 : w4.heap.size < w5.heap.size := by omega
  clear R4
  have hw45 : Below w4.heap.size w4 w5 := ((Below.refl w4.heap.size w4).alloc (Nat.le_refl _) _).trans (hb5.mono (by simp))
  have x50 : w5.cell? ⟨w4.heap.size, 0, none⟩ = some (.slice (some ⟨gC, 0, none⟩) M.length M.length) := by rw [hc_hb5 _ _ (by simp)]; simp
  have x51 : w5.cell? ⟨w4.heap.size, 1, none⟩ = some (.slice (some ⟨gD, 0, none⟩) Q.length Q.length) := by rw [hc_hb5 _ _ (by simp)]; simp
  have hw13 : Below w1.heap.size w1 w3 := hb2.trans (hb3.mono hb2.size)
  have hw35 : Below w3.heap.size w3 w5 := hb4.trans (hw45.mono hb4.size)
  have hw15 : Below w1.heap.size w1 w5 := hw13.trans (hw35.mono hw13.size)
  have hw5 : Below w.heap.size w w5 := hw3.trans (hw35.mono hw3.size)
  have p10 : w1.cell? ⟨w.heap.size, 0, none⟩ = some (.slice a1 M.length c1) := by rw [hc_hb1 _ _ (by simp)]; simp
  have p11 : w1.cell? ⟨w.heap.size, 1, none⟩ = some (.slice a2 Q.length c2) := by rw [hc_hb1 _ _ (by simp)]; simp
  have hvq : Vq w5 w.heap.size w4.heap.size (.slice a1 M.length c1) (.slice a2 Q.length c2) (.slice (some ⟨gC, 0, none⟩) M.length M.length) (.slice (some ⟨gD, 0, none⟩) Q.length Q.length) :=
    ⟨(hw15.cell (p := ⟨w.heap.size, 0, none⟩) hz0_hb1).trans p10, (hw15.cell (p := ⟨w.heap.size, 1, none⟩) hz0_hb1).trans p11, x50, x51, by omega, hz45⟩
  have hX5 := HR4.out.below hw45 (Nat.le_refl _)
  obtain ⟨P, hP⟩ : ∃ P, P = w.heap.size := ⟨_, rfl⟩
  obtain ⟨A1, hA1⟩ : ∃ A1, A1 = w3.heap.size := ⟨_, rfl⟩
  obtain ⟨V, hV⟩ : ∃ V, V = w4.heap.size := ⟨_, rfl⟩
  rw [← hP] at hvq
  rw [← hA1] at hX5
  rw [← hV] at hX5 hvq hz45
  rw [← hP, ← hV]
  clear hP hA1 hV hw13 hw15 hw35 hw45 p10 p11 x50 x51 HR4 hw1 hw2 hw3 hw4 HS
  clear hc_hb1 hf_hb1 hcA_hb1 hfA_hb1 hz_hb1 hz0_hb1 hb1 hc_hb2 hf_hb2 hcA_hb2 hfA_hb2 hz_hb2 hz0_hb2 hb2 hc_hb3 hf_hb3 hcA_hb3 hfA_hb3 hz_hb3 hz0_hb3 hb3 hc_hb4 hf_hb4 hcA_hb4 hfA_hb4 hz_hb4 hz0_hb4 hb4 hc_hb5 hf_hb5 hcA_hb5 hfA_hb5 hz_hb5 hz0_hb5 hb5
  have RX := Lib.hid (hX5.reads I1.out I2.out)
  obtain ⟨k1, k2, k3, k4, l1, l2⟩ := hvq
  have r1 : ∀ w', Below w5.heap.size w5 w' → w'.cell? ⟨P, 0, none⟩ = some (.slice a1 M.length c1) := fun w' h => (h.cell (p := ⟨P, 0, none⟩) (by show P < _; omega)).trans k1
  have r2 : ∀ w', Below w5.heap.size w5 w' → w'.cell? ⟨P, 1, none⟩ = some (.slice a2 Q.length c2) := fun w' h => (h.cell (p := ⟨P, 1, none⟩) (by show P < _; omega)).trans k2
  have r3 : ∀ w', Below w5.heap.size w5 w' → w'.cell? ⟨V, 0, none⟩ = some (.slice (some ⟨gC, 0, none⟩) M.length M.length) := fun w' h => (h.cell (p := ⟨V, 0, none⟩) (by show V < _; omega)).trans k3
  have r4 : ∀ w', Below w5.heap.size w5 w' → w'.cell? ⟨V, 1, none⟩ = some (.slice (some ⟨gD, 0, none⟩) Q.length Q.length) := fun w' h => (h.cell (p := ⟨V, 1, none⟩) (by show V < _; omega)).trans k4
  clear hX5 k1 k2 k3 k4 hz45
  go_wp2_with fail
  go_region_held3 (fun w' => Below w5.heap.size w5 w') ((repeat' (first | (with_reducible exact Below.refl _ _) | (with_reducible assumption) | (with_reducible refine Below.alloc ?_ ?_ _) | (with_reducible refine Below.drew ?_) | (with_reducible refine below_drewN ?_ _) | (with_reducible refine Below.setCell ?_ ?_ _) | (with_reducible refine Below.trans ?_ (Below.mono (by with_reducible assumption) ?_)) | (with_reducible exact Below.size (by with_reducible assumption)) | go_size)))
    (first | (go_at_call 17; refine (toProblem_out _ _ M Q _ (g1 _ (hw5.trans (Below.mono (by assumption) hw5.size))) (g2 _ (hw5.trans (Below.mono (by assumption) hw5.size))) HN1.out HN2.out).mono ?_; rintro e w8 ⟨gE, gF, us8, rfl, hr8, hb8⟩; have hS8 : Below w5.heap.size w5 w8 := (by (repeat' (first | (with_reducible exact Below.refl _ _) | (with_reducible assumption) | (with_reducible refine Below.alloc ?_ ?_ _) | (with_reducible refine Below.drew ?_) | (with_reducible refine below_drewN ?_ _) | (with_reducible refine Below.setCell ?_ ?_ _) | (with_reducible refine Below.trans ?_ (Below.mono (by with_reducible assumption) ?_)) | (with_reducible exact Below.size (by with_reducible assumption)) | go_size))); have R8 := Lib.hid (hr8.reads I1.out I2.out); clear hr8) | (go_at_call 19; refine (eqProblem_same _ _ _ _ M Q _ (RX.out.1.below hS8) (RX.out.2.below hS8) R8.out.1 R8.out.2).mono ?_; rintro e w9 ⟨rfl, hb9⟩; have hS9 : Below w5.heap.size w5 w9 := (by (repeat' (first | (with_reducible exact Below.refl _ _) | (with_reducible assumption) | (with_reducible refine Below.alloc ?_ ?_ _) | (with_reducible refine Below.drew ?_) | (with_reducible refine below_drewN ?_ _) | (with_reducible refine Below.setCell ?_ ?_ _) | (with_reducible refine Below.trans ?_ (Below.mono (by with_reducible assumption) ?_)) | (with_reducible exact Below.size (by with_reducible assumption)) | go_size)))))
  have hw9 : Below w.heap.size w w9 := hw5.trans (hS9.mono hw5.size)
  go_wp2_with fail
  go_ret
  exact ⟨rfl, hw9⟩
end Go.Proofs.Ytoifpjmhikgjgaa.PW
