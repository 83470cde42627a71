/-
  Programs, as the walks of the laws want them (lawx.py): copies, marks, marks looked at again.
-/
import Derived.Test.YtgncaploccbfnaaWPrg
import Derived.Test.YtgncaploccbfnaaLKX
namespace Go.Proofs.Ytgncaploccbfnaa.PW
open Go.RowKit Go.Proofs.Ytgncaploccbfnaa
open Go.Proofs.Ytgncaploccbfnaa.PM

set_option maxHeartbeats 1000000 in
theorem toW_x (d c a b : Value) (D : List (List Int)) (C : List Int) (A : List (List Int)) (B : List Int) (w : World) (h1 : PM.Rows w d D) (h2 : Ints w c C) (h3 : PM.Rows w a A) (h4 : Ints w b B) (hn : szWn D C A B ≤ 1048576) :
    Calls Try.prog 38 #[.agg #[d, c, a, b]] w fun e w' => ∃ p1 q1 p2 q2 p3 q3 p4 q4, e = .returned (.agg #[.slice p1 D.length q1, .slice p2 C.length q2, .slice p3 A.length q3, .slice p4 B.length q4]) ∧
      RngWx w.heap.size w'.heap.size w' (.slice p1 D.length q1) (.slice p2 C.length q2) (.slice p3 A.length q3) (.slice p4 B.length q4) D C A B ∧ Below w.heap.size w w' := by
  have g1 := fun (w' : World) (h : Below w.heap.size w w') => h1.below h
  have g2 := fun (w' : World) (h : Below w.heap.size w w') => h2.below h
  have g3 := fun (w' : World) (h : Below w.heap.size w w') => h3.below h
  have g4 := fun (w' : World) (h : Below w.heap.size w w') => h4.below h
  obtain ⟨x1, y1, rfl, _⟩ := h1
  obtain ⟨x2, y2, rfl, _⟩ := h2
  obtain ⟨x3, y3, rfl, _⟩ := h3
  obtain ⟨x4, y4, rfl, _⟩ := h4
  have HN := Lib.hid (show tot D ≤ 1048576 ∧ C.length ≤ 1048576 ∧ tot A ≤ 1048576 ∧ B.length ≤ 1048576 by unfold szWn at hn; omega)
  clear hn
  go_enter Try.func38, Try.ntmps38
  go_wp2_with fail
  refine (toR_x _ D _ (g1 _ (by (repeat' (first | (with_reducible exact Below.refl _ _) | (with_reducible assumption) | (with_reducible refine Below.alloc ?_ ?_ _) | (with_reducible refine Below.drew ?_) | (with_reducible refine below_drewN ?_ _) | (with_reducible refine Below.setCell ?_ ?_ _) | (with_reducible refine Below.trans ?_ (Below.mono (by with_reducible assumption) ?_)) | (with_reducible exact Below.size (by with_reducible assumption)) | go_size)))) HN.out.1).mono ?_; rintro e w1 ⟨p1, q1, rfl, hr1, hb1⟩; obtain ⟨hc_hb1, hf_hb1⟩ := bcell hb1; obtain ⟨hcA_hb1, hfA_hb1⟩ := bcellG (W0 := w) hb1 (by (repeat' (first | (with_reducible exact Below.refl _ _) | (with_reducible assumption) | (with_reducible refine Below.alloc ?_ ?_ _) | (with_reducible refine Below.drew ?_) | (with_reducible refine below_drewN ?_ _) | (with_reducible refine Below.setCell ?_ ?_ _) | (with_reducible refine Below.trans ?_ (Below.mono (by with_reducible assumption) ?_)) | (with_reducible exact Below.size (by with_reducible assumption)) | go_size))); have hz_hb1 := hb1.size; (try simp at hz_hb1); (try simp only [Nat.add_one_le_iff] at hz_hb1); have hz0_hb1 : w.heap.size < w1.heap.size := (by omega); have hz1_hb1 : w.heap.size + 1 < w1.heap.size := (by omega); have hz2_hb1 : w.heap.size + 1 + 1 < w1.heap.size := (by omega)
  have HR1 := Lib.hid hr1
  clear hr1
  go_wp2_with fail
  refine (toI_x _ C _ (g2 _ (by (repeat' (first | (with_reducible exact Below.refl _ _) | (with_reducible assumption) | (with_reducible refine Below.alloc ?_ ?_ _) | (with_reducible refine Below.drew ?_) | (with_reducible refine below_drewN ?_ _) | (with_reducible refine Below.setCell ?_ ?_ _) | (with_reducible refine Below.trans ?_ (Below.mono (by with_reducible assumption) ?_)) | (with_reducible exact Below.size (by with_reducible assumption)) | go_size)))) HN.out.2.1).mono ?_; rintro e w2 ⟨p2, q2, rfl, hr2, hb2⟩; obtain ⟨hc_hb2, hf_hb2⟩ := bcell hb2; have hz_hb2 := hb2.size; (try simp at hz_hb2); (try simp only [Nat.add_one_le_iff] at hz_hb2)
  have hz0_hb2 : w.heap.size < w2.heap.size := by omega
  have hz1_hb2 : w.heap.size + 1 < w2.heap.size := by omega
  have hz2_hb2 : w.heap.size + 1 + 1 < w2.heap.size := by omega
  have HR2 := Lib.hid hr2
  clear hr2
  go_wp2_with fail
  refine (toR_x _ A _ (g3 _ (by (repeat' (first | (with_reducible exact Below.refl _ _) | (with_reducible assumption) | (with_reducible refine Below.alloc ?_ ?_ _) | (with_reducible refine Below.drew ?_) | (with_reducible refine below_drewN ?_ _) | (with_reducible refine Below.setCell ?_ ?_ _) | (with_reducible refine Below.trans ?_ (Below.mono (by with_reducible assumption) ?_)) | (with_reducible exact Below.size (by with_reducible assumption)) | go_size)))) HN.out.2.2.1).mono ?_; rintro e w3 ⟨p3, q3, rfl, hr3, hb3⟩; obtain ⟨hc_hb3, hf_hb3⟩ := bcell hb3; have hz_hb3 := hb3.size; (try simp at hz_hb3); (try simp only [Nat.add_one_le_iff] at hz_hb3)
  have hz0_hb3 : w.heap.size < w3.heap.size := by omega
  have hz1_hb3 : w.heap.size + 1 < w3.heap.size := by omega
  have hz2_hb3 : w.heap.size + 1 + 1 < w3.heap.size := by omega
  have HR3 := Lib.hid hr3
  clear hr3
  go_wp2_with fail
  refine (toI_x _ B _ (g4 _ (by (repeat' (first | (with_reducible exact Below.refl _ _) | (with_reducible assumption) | (with_reducible refine Below.alloc ?_ ?_ _) | (with_reducible refine Below.drew ?_) | (with_reducible refine below_drewN ?_ _) | (with_reducible refine Below.setCell ?_ ?_ _) | (with_reducible refine Below.trans ?_ (Below.mono (by with_reducible assumption) ?_)) | (with_reducible exact Below.size (by with_reducible assumption)) | go_size)))) HN.out.2.2.2).mono ?_; rintro e w4 ⟨p4, q4, rfl, hr4, hb4⟩; obtain ⟨hc_hb4, hf_hb4⟩ := bcell hb4; have hz_hb4 := hb4.size; (try simp at hz_hb4); (try simp only [Nat.add_one_le_iff] at hz_hb4)
  have hz0_hb4 : w.heap.size < w4.heap.size := by omega
  have hz1_hb4 : w.heap.size + 1 < w4.heap.size := by omega
  have hz2_hb4 : w.heap.size + 1 + 1 < w4.heap.size := by omega
  have HR4 := Lib.hid hr4
  clear hr4
  go_wp2_with fail
  refine bodyPost_ret (v := .agg #[.slice p1 D.length q1, .slice p2 C.length q2, .slice p3 A.length q3, .slice p4 B.length q4]) (by simp [*, results, Try.results38, go_sem]) rfl ?_
  have hr1 := HR1.out
  have hr2 := HR2.out
  have hr3 := HR3.out
  have hr4 := HR4.out
  simp only [World.size_alloc] at hr1
  simp only [World.size_setCell] at hr2 hr3 hr4
  have T1 : ∀ (W : World) o v, Bet w.heap.size (w.heap.size + 1 + 1 + 1) W (W.setCell ⟨w.heap.size + 1 + 1, o, none⟩ v) := fun W o v => Bet.of_tch (bs := [w.heap.size + 1 + 1]) ((Tch.refl _ _).setCell (by simp) _) (fun b hb => by simp at hb; omega)
  have T2 : ∀ (W : World) o v, Bet w.heap.size (w.heap.size + 1 + 1 + 1) W (W.setCell ⟨w.heap.size + 1, o, none⟩ v) := fun W o v => Bet.of_tch (bs := [w.heap.size + 1]) ((Tch.refl _ _).setCell (by simp) _) (fun b hb => by simp at hb; omega)
  have U : ∀ (W W' : World), Below W.heap.size W W' → Bet w.heap.size (w.heap.size + 1 + 1 + 1) W W' := fun W W' h => Bet.of_below h
  have B12 := (T1 w1 0 (.slice p1 D.length q1)).trans (U _ w2 (by simpa using hb2))
  have B23 := (T1 w2 1 (.slice p2 C.length q2)).trans (U _ w3 (by simpa using hb3))
  have B34 := (T1 w3 2 (.slice p3 A.length q3)).trans (U _ w4 (by simpa using hb4))
  have B4 := ((((T1 w4 3 (.slice p4 B.length q4)).trans (T2 _ 0 (.slice p1 D.length q1))).trans (T2 _ 1 (.slice p2 C.length q2))).trans (T2 _ 2 (.slice p3 A.length q3))).trans (T2 _ 3 (.slice p4 B.length q4))
  have h1 : Below w.heap.size w w1 := by (repeat' (first | (with_reducible exact Below.refl _ _) | (with_reducible assumption) | (with_reducible refine Below.alloc ?_ ?_ _) | (with_reducible refine Below.drew ?_) | (with_reducible refine below_drewN ?_ _) | (with_reducible refine Below.setCell ?_ ?_ _) | (with_reducible refine Below.trans ?_ (Below.mono (by with_reducible assumption) ?_)) | (with_reducible exact Below.size (by with_reducible assumption)) | go_size))
  have k1 := ((hr1.bet B12 (.inr (Nat.le_refl _))).bet B23 (.inr (Nat.le_refl _))).bet B34 (.inr (Nat.le_refl _)) |>.bet B4 (.inr (Nat.le_refl _))
  have k2 := ((hr2.bet B23 (.inr (by omega))).bet B34 (.inr (by omega))).bet B4 (.inr (by omega))
  have k3 := (hr3.bet B34 (.inr (by omega))).bet B4 (.inr (by omega))
  have k4 := hr4.bet B4 (.inr (by omega))
  have hG := RngWx.of_four k1 k2 k3 k4 (by omega) (by omega) (by omega) (by omega)
  refine ⟨p1, q1, p2, q2, p3, q3, p4, q4, rfl, ?_, h1.trans ((((B12.trans B23).trans B34).trans B4).below (by omega))⟩
  obtain ⟨us, hG⟩ := hG
  exact ⟨us, hG.od, hG.oc, hG.oa, hG.ob, fun k hk => by have := hG.bd k hk; simp; omega, fun k hk => by have := hG.bc k hk; simp; omega, fun k hk => by have := hG.ba k hk; simp; omega, fun k hk => by have := hG.bb k hk; simp; omega, hG.dc, hG.da, hG.db, hG.ca, hG.cb, hG.ab⟩

set_option maxHeartbeats 1000000 in
theorem markProgram_any (lo hi : Nat) (d c a b : Value) (D : List (List Int)) (C : List Int) (A : List (List Int)) (B : List Int) (us : List Value × List Value) (k : Int) (w : World) (h : RngW lo hi w d c a b D C A B us) (hhi : hi ≤ w.heap.size) (h0 : 0 ≤ k) (h1 : k ≤ 8388608) (hn : szWn D C A B ≤ 1048576) :
    Calls Try.prog 43 #[.agg #[d, c, a, b], .int .i64 k] w fun e w' => e = .returned (.int .i64 (k + pre D D.length + C.length + pre A A.length + B.length)) ∧
      RngW lo hi w' d c a b (marksR k D) (marks (k + pre D D.length) C.length) (marksR (k + pre D D.length + C.length) A) (marks (k + pre D D.length + C.length + pre A A.length) B.length) us ∧ Bet lo hi w w' := by
  obtain ⟨x1, y1, rfl⟩ : ∃ a cap, d = .slice a D.length cap := by
    rcases h.od.top.2 with ⟨rfl, hn⟩ | ⟨g, cap, cur, rfl, _⟩
    · exact ⟨none, 0, by rw [hn]⟩
    · exact ⟨_, cap, rfl⟩
  obtain ⟨x2, y2, rfl⟩ := OwnI.shape h.oc
  obtain ⟨x3, y3, rfl⟩ : ∃ z cap, a = .slice z A.length cap := by
    rcases h.oa.top.2 with ⟨rfl, hn⟩ | ⟨g, cap, cur, rfl, _⟩
    · exact ⟨none, 0, by rw [hn]⟩
    · exact ⟨_, cap, rfl⟩
  obtain ⟨x4, y4, rfl⟩ := OwnI.shape h.ob
  have hp : (pre D D.length : Int) ≤ tot D ∧ (pre A A.length : Int) ≤ tot A := by
    have := pre_le D D.length
    have := pre_le A A.length
    unfold tot
    omega
  obtain ⟨W0, hW0⟩ : ∃ W0, W0 = w.alloc (.cells #[.slice x1 D.length y1, .slice x2 C.length y2, .slice x3 A.length y3, .slice x4 B.length y4] 54) := ⟨_, rfl⟩
  have hB0 : Below w.heap.size w W0 := by rw [hW0]; exact (Below.refl _ _).alloc (Nat.le_refl _) _
  obtain ⟨P, hP⟩ : ∃ P, P = w.heap.size := ⟨_, rfl⟩
  have c0 : W0.cell? ⟨P, 0, none⟩ = some (.slice x1 D.length y1) := by rw [hW0, hP]; simp
  have c1 : W0.cell? ⟨P, 1, none⟩ = some (.slice x2 C.length y2) := by rw [hW0, hP]; simp
  have c2 : W0.cell? ⟨P, 2, none⟩ = some (.slice x3 A.length y3) := by rw [hW0, hP]; simp
  have c3 : W0.cell? ⟨P, 3, none⟩ = some (.slice x4 B.length y4) := by rw [hW0, hP]; simp
  have lP : P < W0.heap.size := by rw [hW0, hP]; simp
  have hR := h.bet (.of_below hB0 : Bet hi (w.heap.size + hi) w W0) (.inl (Nat.le_refl _))
  have HR := Lib.hid hR
  have HP := Lib.hid hp
  have hhp : hi ≤ P := by omega
  have HN := Lib.hid hn
  have HB0 := Lib.hid (Bet.of_below (lo := lo) (hi := hi) hB0)
  have m1 := markInt64SS_any _ D us.1 k W0 hR.od h0 (by unfold szWn at hn; omega)
  have M1 := Lib.hid m1
  clear m1 h hR hp hn hB0 hhi
  have HW0 := Lib.hid hW0
  clear hW0
  go_enter Try.func43, Try.ntmps43
  go_wp2_with fail
  rw [← HW0.out, ← hP]
  have HPE := Lib.hid hP
  clear hP
  refine M1.out.mono ?_
  rintro e w1 ⟨rfl, o1, t1⟩
  have B1 : Bet lo hi W0 w1 := Bet.of_tch t1 (fun b hb => HR.out.bd b (List.mem_append.2 (.inr hb)))
  have k2 : OwnI w1 (.slice x2 C.length y2) C := HR.out.oc.tch t1 (fun b hb e => HR.out.dc b (List.mem_append.2 (.inr e)) (mem_blks'.2 hb))
  have k3 : OwnR w1 (.slice x3 A.length y3) A us.2 := HR.out.oa.touch' t1 (fun b hb e => HR.out.da b (List.mem_append.2 (.inr e)) hb)
  have k4 : OwnI w1 (.slice x4 B.length y4) B := HR.out.ob.tch t1 (fun b hb e => HR.out.db b (List.mem_append.2 (.inr e)) (mem_blks'.2 hb))
  have c11 := (B1.cell (p := ⟨P, 1, none⟩) lP (.inr hhp)).trans c1
  have c12 := (B1.cell (p := ⟨P, 2, none⟩) lP (.inr hhp)).trans c2
  have c13 := (B1.cell (p := ⟨P, 3, none⟩) lP (.inr hhp)).trans c3
  have lP1 := Nat.lt_of_lt_of_le lP B1.size
  have O1 := Lib.hid o1
  have HB1 := Lib.hid (HB0.out.trans B1)
  have K2 := Lib.hid k2
  have K3 := Lib.hid k3
  have K4 := Lib.hid k4
  clear o1 t1 B1 k2 k3 k4 c0 c1 c2 c3 lP M1
  obtain ⟨n1, e1⟩ : ∃ n, n = k + (pre D D.length : Int) := ⟨_, rfl⟩
  rw [← e1]
  have b1 : 0 ≤ n1 ∧ n1 ≤ k + 1048576 := by have := HP.out; have := HN.out; unfold szWn at this; omega
  obtain ⟨b1a, b1b⟩ := b1
  have E1 := Lib.hid e1
  clear e1
  go_wp2_with fail
  refine (markInt64S_any _ C n1 _ K2.out b1a (by have := HN.out; unfold szWn at this; omega)).mono ?_
  rintro e w2 ⟨rfl, o2, t2⟩
  have B2 : Bet lo hi w1 w2 := Bet.of_tch t2 (fun b hb => HR.out.bc b hb)
  have j1 : OwnR w2 (.slice x1 D.length y1) (marksR k D) us.1 := O1.out.touch' t2 (fun b hb e => HR.out.dc b hb e)
  have k3 : OwnR w2 (.slice x3 A.length y3) A us.2 := K3.out.touch' t2 (fun b hb e => HR.out.ca b e hb)
  have k4 : OwnI w2 (.slice x4 B.length y4) B := K4.out.tch t2 (fun b hb e => HR.out.cb b e (mem_blks'.2 hb))
  have c22 := (B2.cell (p := ⟨P, 2, none⟩) lP1 (.inr hhp)).trans c12
  have c23 := (B2.cell (p := ⟨P, 3, none⟩) lP1 (.inr hhp)).trans c13
  have lP2 := Nat.lt_of_lt_of_le lP1 B2.size
  have J1 := Lib.hid j1
  have O2 := Lib.hid o2
  have L3 := Lib.hid k3
  have L4 := Lib.hid k4
  have HB2 := Lib.hid (HB1.out.trans B2)
  clear j1 o2 t2 B2 k3 k4 K2 K3 K4 O1 c11 c12 c13 lP1
  obtain ⟨n2, e2⟩ : ∃ n, n = n1 + (C.length : Int) := ⟨_, rfl⟩
  rw [← e2]
  have b2 : 0 ≤ n2 ∧ n2 ≤ n1 + 1048576 := by have := HN.out; unfold szWn at this; omega
  obtain ⟨b2a, b2b⟩ := b2
  have E2 := Lib.hid e2
  clear e2
  go_wp2_with fail
  refine (markInt64SS_any _ A us.2 n2 _ L3.out b2a (by have := HN.out; unfold szWn at this; omega)).mono ?_
  rintro e w3 ⟨rfl, o3, t3⟩
  have B3 : Bet lo hi w2 w3 := Bet.of_tch t3 (fun b hb => HR.out.ba b (List.mem_append.2 (.inr hb)))
  have j1 : OwnR w3 (.slice x1 D.length y1) (marksR k D) us.1 := J1.out.touch' t3 (fun b hb e => HR.out.da b hb (List.mem_append.2 (.inr e)))
  have j2 : OwnI w3 (.slice x2 C.length y2) (marks n1 C.length) := by
    have o2 := O2.out
    unfold OwnI at o2 ⊢
    exact own_touch o2 t3 (fun b hb e => HR.out.ca b (mem_blks'.2 hb) (List.mem_append.2 (.inr e)))
  have k4 : OwnI w3 (.slice x4 B.length y4) B := L4.out.tch t3 (fun b hb e => HR.out.ab b (List.mem_append.2 (.inr e)) (mem_blks'.2 hb))
  have c33 := (B3.cell (p := ⟨P, 3, none⟩) lP2 (.inr hhp)).trans c23
  have lP3 := Nat.lt_of_lt_of_le lP2 B3.size
  have I1 := Lib.hid j1
  have I2 := Lib.hid j2
  have O3 := Lib.hid o3
  have N4 := Lib.hid k4
  have HB3 := Lib.hid (HB2.out.trans B3)
  clear j1 j2 o3 t3 B3 k4 L3 L4 J1 O2 c22 c23 lP2
  obtain ⟨n3, e3⟩ : ∃ n, n = n2 + (pre A A.length : Int) := ⟨_, rfl⟩
  rw [← e3]
  have b3 : 0 ≤ n3 ∧ n3 ≤ n2 + 1048576 := by have := HP.out; have := HN.out; unfold szWn at this; omega
  obtain ⟨b3a, b3b⟩ := b3
  have E3 := Lib.hid e3
  clear e3
  go_wp2_with fail
  refine (markInt64S_any _ B n3 _ N4.out b3a (by have := HN.out; unfold szWn at this; omega)).mono ?_
  rintro e w4 ⟨rfl, o4, t4⟩
  go_wp2_with fail
  go_ret
  have B4 : Bet lo hi w3 w4 := Bet.of_tch t4 (fun b hb => HR.out.bb b hb)
  rw [← E1.out, ← E2.out, ← E3.out]
  refine ⟨rfl, ⟨I1.out.touch' t4 (fun b hb e => HR.out.db b hb e), ?_, O3.out.touch' t4 (fun b hb e => HR.out.ab b hb e), ?_, HR.out.bd, HR.out.bc, HR.out.ba, HR.out.bb, HR.out.dc, HR.out.da, HR.out.db, HR.out.ca, HR.out.cb, HR.out.ab⟩, HB3.out.trans B4⟩
  · have i2 := I2.out
    unfold OwnI at i2 ⊢
    exact own_touch i2 t4 (fun b hb e => HR.out.cb b (mem_blks'.2 hb) e)
  · have e : (marks n3 B.length).length = B.length := marks_length _ _
    unfold OwnI at o4 ⊢
    rw [e] at o4 ⊢
    exact o4
theorem markW_x {lo hi : Nat} {w : World} {d c a b : Value} {D : List (List Int)} {C : List Int} {A : List (List Int)} {B : List Int} (h : RngWx lo hi w d c a b D C A B) (hn : szWn D C A B ≤ 1048576) (hhi : hi ≤ w.heap.size) (k : Int) (h0 : 0 ≤ k) (h1 : k ≤ 8388608) :
    Calls Try.prog 43 #[.agg #[d, c, a, b], .int .i64 k] w fun e w' => ∃ k', e = .returned (.int .i64 k') ∧ 0 ≤ k' ∧ k' ≤ k + 2097152 ∧ Bet lo hi w w' := by
  obtain ⟨us, h⟩ := h
  refine (markProgram_any lo hi d c a b D C A B us k w h hhi h0 h1 hn).mono ?_
  rintro e w' ⟨rfl, _, ht⟩
  have := pre_le D D.length
  have := pre_le A A.length
  unfold szWn tot at hn
  exact ⟨_, rfl, by omega, by omega, ht⟩
structure FineWx (D : List (List Int)) (C : List Int) (A : List (List Int)) (B : List Int) : Prop where
  d : ∀ i, i < D.length → ∀ x ∈ D.getD i [], I64 x
  c : ∀ x ∈ C, I64 x
  a : ∀ i, i < A.length → ∀ x ∈ A.getD i [], I64 x
  b : ∀ x ∈ B, I64 x
  n : szWn D C A B ≤ 1048576
def sizeWx (D : List (List Int)) (C : List Int) (A : List (List Int)) (B : List Int) : Nat := pre D D.length + C.length + pre A A.length + B.length
theorem sizeWx_le {D : List (List Int)} {C : List Int} {A : List (List Int)} {B : List Int} (h : FineWx D C A B) : (sizeWx D C A B : Int) ≤ 1048576 := by
  have h := h.n
  have := pre_le D D.length
  have := pre_le A A.length
  unfold szWn tot at h
  unfold sizeWx
  omega
theorem eqW_ans {lo hi lo' hi' : Nat} {w : World} {d c a b d2 c2 a2 b2 : Value} {D : List (List Int)} {C : List Int} {A : List (List Int)} {B : List Int} (h : RngWx lo hi w d c a b D C A B) (h' : RngWx lo' hi' w d2 c2 a2 b2 D C A B) (hf : FineWx D C A B) :
    Calls Try.prog 40 #[.agg #[d, c, a, b], .agg #[d2, c2, a2, b2]] w fun e w' => e = .returned (.bool true) ∧ Below w.heap.size w w' := by
  obtain ⟨r1, r2, r3, r4⟩ := h.reads hf.d hf.c hf.a hf.b
  obtain ⟨s1, s2, s3, s4⟩ := h'.reads hf.d hf.c hf.a hf.b
  exact eqW_x d c a b d2 c2 a2 b2 D C A B w r1 r2 r3 r4 s1 s2 s3 s4
def MkW (k : Int) (lo hi : Nat) (w : World) (d c a b : Value) (D : List (List Int)) (C : List Int) (A : List (List Int)) (B : List Int) : Prop :=
  RngWx lo hi w d c a b (marksR k D) (marks (k + pre D D.length) C.length) (marksR (k + pre D D.length + C.length) A) (marks (k + pre D D.length + C.length + pre A A.length) B.length)
theorem MkW.below {k : Int} {lo hi B0 : Nat} {w w' : World} {d c a b : Value} {D : List (List Int)} {C : List Int} {A : List (List Int)} {B : List Int} (h : MkW k lo hi w d c a b D C A B) (ht : Below B0 w w') (hd : hi ≤ B0) : MkW k lo hi w' d c a b D C A B := RngWx.below h ht hd
theorem MkW.bet {k : Int} {lo hi lo' hi' : Nat} {w w' : World} {d c a b : Value} {D : List (List Int)} {C : List Int} {A : List (List Int)} {B : List Int} (h : MkW k lo hi w d c a b D C A B) (ht : Bet lo' hi' w w') (hd : hi ≤ lo' ∨ hi' ≤ lo) : MkW k lo hi w' d c a b D C A B := RngWx.bet h ht hd
theorem markW_k {lo hi : Nat} {w : World} {d c a b : Value} {D : List (List Int)} {C : List Int} {A : List (List Int)} {B : List Int} (h : RngWx lo hi w d c a b D C A B) (hf : FineWx D C A B) (hhi : hi ≤ w.heap.size) (k : Int) (h0 : 0 ≤ k) (h1 : k ≤ 1048577) :
    Calls Try.prog 43 #[.agg #[d, c, a, b], .int .i64 k] w fun e w' => e = .returned (.int .i64 (k + (sizeWx D C A B : Int))) ∧ MkW k lo hi w' d c a b D C A B ∧ Bet lo hi w w' := by
  obtain ⟨us, h⟩ := h
  refine (markProgram_any lo hi d c a b D C A B us k w h hhi h0 (by omega) hf.n).mono ?_
  rintro e w' ⟨rfl, h2, ht⟩
  exact ⟨ret_i64 (by unfold sizeWx; omega), ⟨us, h2⟩, ht⟩
set_option maxHeartbeats 1000000 in
theorem heldW_k {lo hi : Nat} {w : World} {d c a b : Value} {D : List (List Int)} {C : List Int} {A : List (List Int)} {B : List Int} (k : Int) (h : MkW k lo hi w d c a b D C A B) (hf : FineWx D C A B) (_ : hi ≤ w.heap.size) (h0 : 0 ≤ k) (h1 : k ≤ 1048577) :
    Calls Try.prog 48 #[.agg #[d, c, a, b], .int .i64 k] w fun e w' => e = .returned (.int .i64 (k + (sizeWx D C A B : Int))) ∧ Below w.heap.size w w' := by
  have hn := hf.n
  have hp1 := pre_le D D.length
  have hp2 := pre_le A A.length
  have hn' : (tot D : Int) + C.length + tot A + B.length ≤ 1048576 := by unfold szWn at hn; omega
  have hq1 : (pre D D.length : Int) ≤ tot D := by unfold tot; omega
  have hq2 : (pre A A.length : Int) ≤ tot A := by unfold tot; omega
  obtain ⟨r1, r2, r3, r4⟩ := RngWx.reads h (marksR_i64 h0 (by omega)) (marks_i64 (by omega) (by omega)) (marksR_i64 (by omega) (by omega)) (marks_i64 (by omega) (by omega))
  have hA' : ∀ o, Below w.heap.size w (w.alloc o) := fun o => (Below.refl _ _).alloc (Nat.le_refl _) _
  have G1 := Lib.hid (fun o => r1.below (hA' o))
  have G2 := Lib.hid (fun o => r2.below (hA' o))
  have G3 := Lib.hid (fun o => r3.below (hA' o))
  have G4 := Lib.hid (fun o => r4.below (hA' o))
  obtain ⟨x1, y1, rfl, _⟩ := r1
  obtain ⟨x2, y2, rfl, _⟩ := r2
  obtain ⟨x3, y3, rfl, _⟩ := r3
  obtain ⟨x4, y4, rfl, _⟩ := r4
  clear h hf hn hp1 hp2 hA'
  unfold sizeWx
  have C1 := Lib.hid (fun o => heldInt64SS_any _ D k _ (G1.out o) h0 (by omega))
  generalize pre D D.length = pD at *
  have C2 := Lib.hid (fun o => heldInt64S_any _ C.length (k + pD) _ (G2.out o) (by omega) (by omega))
  have C3 := Lib.hid (fun o => heldInt64SS_any _ A (k + pD + C.length) _ (G3.out o) (by omega) (by omega))
  generalize pre A A.length = pA at *
  have C4 := Lib.hid (fun o => heldInt64S_any _ B.length (k + pD + C.length + pA) _ (G4.out o) (by omega) (by omega))
  clear G1 G2 G3 G4
  rw [show k + ((pD + C.length + pA + B.length : Nat) : Int) = k + pD + C.length + pA + B.length by omega]
  have z1 : 0 ≤ k + (pD : Int) := by omega
  have z2 : 0 ≤ k + (pD : Int) + C.length := by omega
  have z3 : 0 ≤ k + (pD : Int) + C.length + pA := by omega
  have z4 : 0 ≤ k + (pD : Int) + C.length + pA + B.length := by omega
  simp only [marksR_length, marks_length] at *
  clear hn' hq1 hq2
  go_enter Try.func48, Try.ntmps48
  go_wp2_with fail
  refine (C1.out _).mono ?_
  rintro e w1 ⟨rfl, rfl⟩
  go_wp2_with fail
  refine (C2.out _).mono ?_
  rintro e w1 ⟨rfl, rfl⟩
  go_wp2_with fail
  refine (C3.out _).mono ?_
  rintro e w1 ⟨rfl, rfl⟩
  go_wp2_with fail
  refine (C4.out _).mono ?_
  rintro e w1 ⟨rfl, rfl⟩
  go_wp2_with fail
  go_ret
  refine ⟨rfl, ?_⟩
  (repeat' (first | (with_reducible exact Below.refl _ _) | (with_reducible assumption) | (with_reducible refine Below.alloc ?_ ?_ _) | (with_reducible refine Below.drew ?_) | (with_reducible refine below_drewN ?_ _) | (with_reducible refine Below.setCell ?_ ?_ _) | (with_reducible refine Below.trans ?_ (Below.mono (by with_reducible assumption) ?_)) | (with_reducible exact Below.size (by with_reducible assumption)) | go_size))
end Go.Proofs.Ytgncaploccbfnaa.PW
