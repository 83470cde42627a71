/-
  Walks: the pivot of a set, in the program: the walk.
-/
import Derived.Test.YthnefjllijoobaaDoorRPiv
namespace Go.Proofs.YthnefjllijoobaaDoor.PW
open Go.RowKit Go.Proofs.YthnefjllijoobaaDoor
open Go.Proofs.YthnefjllijoobaaDoor.PM Go.Proofs.YthnefjllijoobaaDoor.PX

theorem own_le {w : World} {g n cap : Nat} {xs : List Int} (h : OwnI w (.slice (some ⟨g, 0, none⟩) n cap) xs) : n ≤ cap := by
  rcases h.2 with ⟨c, _⟩ | ⟨g2, cap2, cur, hv, _, _, hnc, _⟩
  · cases c
  · simp only [Value.slice.injEq] at hv
    omega
theorem PvO.rowF {wr W3 W4 : World} {N C g cap k B0 : Nat} {d : Int} {v q u : Value} {R : List (List Int)} {S xs : List Int} {us : List Value} (h : PvO wr N d v q R S us) (hb : Below wr.heap.size wr W3) (hf : FreshI B0 W3 u xs) (hB0 : wr.heap.size ≤ B0) (hk : R.length = k)
    (hown : W4.ownsRow C 23 1 (.slice (some ⟨g, 0, none⟩) (k + 1) cap) (k + 1) (us ++ [u])) (hgrow : W3.grownBy W4 v.ownBlock) (hat : v.ownBlock = some g ∨ g = W3.heap.size) :
    PvO (W4.setCell ⟨N, 1, none⟩ (.slice (some ⟨g, 0, none⟩) (k + 1) cap)) N d (.slice (some ⟨g, 0, none⟩) (k + 1) cap) q (R ++ [xs]) S (us ++ [u]) := by
  subst hk
  obtain ⟨gu, cu, hu, h1, h2, ho⟩ := hf
  refine h.row hb ho (fun b hb' => ?_) hown hgrow hat
  rw [hu] at hb'
  simp [Value.ownBlock] at hb'
  omega
theorem PvO.numF {wr W3 W4 : World} {N C g cap k : Nat} {d x : Int} {v q : Value} {R : List (List Int)} {S : List Int} {us : List Value} (h : PvO wr N d v q R S us) (hb : Below wr.heap.size wr W3) (hk : S.length = k)
    (hown : W4.ownsRow C 2 1 (.slice (some ⟨g, 0, none⟩) (k + 1) cap) (k + 1) (S.map (Value.int .i64) ++ [.int .i64 x])) (hgrow : W3.grownBy W4 q.ownBlock) (hat : q.ownBlock = some g ∨ g = W3.heap.size) (hgl : g < W4.heap.size) :
    PvO (W4.setCell ⟨N, 2, none⟩ (.slice (some ⟨g, 0, none⟩) (k + 1) cap)) N d v (.slice (some ⟨g, 0, none⟩) (k + 1) cap) R (S ++ [x]) us := by
  subst hk
  exact h.num hb hown hgrow hat hgl
theorem PvO.low {wr W3 W4 w : World} {N B o : Nat} {row : Option Nat} {y : Value} (hB : Below B w wr) (hBN : B ≤ N) (hN : N < wr.heap.size) (hb : Below wr.heap.size wr W3) (hgrow : W3.grownBy W4 row) (hr : ∀ b, row = some b → N + 1 ≤ b) : Below B w (W4.setCell ⟨N, o, none⟩ y) :=
  ((hB.trans (hb.mono (by omega))).grown hgrow (by have := hb.size; omega) (fun b hb' => by have := hr b hb'; omega)).setCell hBN _
theorem PvO.outV {wr w w' : World} {N b0 : Nat} {d : Int} {v q : Value} {R : List (List Int)} {S : List Int} {us : List Value} (h : PvO wr N d v q R S us) (ht : Tch [b0] wr w') (hb0 : b0 ≤ N) (hwN : w.heap.size ≤ N) (hB : Below w.heap.size w w') :
    OutV w d R S (.returned (.agg #[.int .i64 d, v, q])) w' := by
  have hk : ∀ b, N + 1 ≤ b → w'.heap[b]? = wr.heap[b]? := fun b hb => ht.block b (by simp; omega)
  have hz := ht.size
  have hr := h.rows.keepB (W' := w') (by omega) (fun b hb => hk b (h.rows.mb b hb).1) (fun i b hi hb => hk b (h.rows.ub i b hi hb).1)
  exact ⟨v, q, us, rfl, ⟨hr.rows, fun b hb => ⟨by have := (hr.mb b hb).1; omega, (hr.mb b hb).2⟩, fun i b hi hb => ⟨by have := (hr.ub i b hi hb).1; omega, (hr.ub i b hi hb).2⟩⟩, own_keep h.side (fun b hb => hk b (h.qb b hb).1),
    fun b hb => ⟨by have := (h.qb b hb).1; omega, by have := (h.qb b hb).2; omega⟩, h.qu, hB⟩
theorem OwnRs.shape {B : Nat} {w : World} {v : Value} {xss : List (List Int)} {us : List Value} (h : OwnRs B w v xss us) : ∃ a c, v = .slice a xss.length c := by
  rcases h.rows.top.2 with ⟨rfl, hn⟩ | ⟨g, cap, cur, rfl, _⟩
  · exact ⟨none, 0, by rw [hn]⟩
  · exact ⟨_, cap, rfl⟩
theorem own_shape {w : World} {v : Value} {xs : List Int} (h : OwnI w v xs) : ∃ a c, v = .slice a xs.length c := by
  rcases h.2 with ⟨rfl, hn⟩ | ⟨g, cap, cur, rfl, _⟩
  · exact ⟨none, 0, by rw [hn]⟩
  · exact ⟨_, cap, rfl⟩
def rTo (M : List (List Int)) (s : Int) (k : Nat) : List (List Int) := (List.range k).map fun i => (List.range M.length).map (pvR M s i)
def sTo (M : List (List Int)) (Q : List Int) (s : Int) (k : Nat) : List Int := (List.range k).map (pvS M Q s)
theorem rTo_succ (M : List (List Int)) (s : Int) (k : Nat) : rTo M s (k + 1) = rTo M s k ++ [(List.range M.length).map (pvR M s k)] := by simp [rTo, List.range_succ]
theorem sTo_succ (M : List (List Int)) (Q : List Int) (s : Int) (k : Nat) : sTo M Q s (k + 1) = sTo M Q s k ++ [pvS M Q s k] := by simp [sTo, List.range_succ]
theorem rTo_length (M : List (List Int)) (s : Int) (k : Nat) : (rTo M s k).length = k := by simp [rTo]
theorem sTo_length (M : List (List Int)) (Q : List Int) (s : Int) (k : Nat) : (sTo M Q s k).length = k := by simp [sTo]
theorem rTo_all (M : List (List Int)) (s : Int) : rTo M s M.length = tab M.length (pvR M s) := rfl

set_option maxRecDepth 100000 in
set_option maxHeartbeats 4000000 in
theorem pivotOf_no (m q : Value) (M : List (List Int)) (Q : List Int) (s : Int) (w : World) (hG : Glob w) (h1 : PM.Rows w m M) (h2 : Ints w q Q) (hp : isPB M Q = true) (hs0 : 0 ≤ s) (hs1 : s < 2 ^ M.length) (hD : dt M.length (colS M s) = 0) :
    Calls Tryd.prog 50 #[.agg #[m, q], .int .i64 s] w fun e w' => (∃ a, e = .panicked [{ v := .iface 105 (.pointer (some a)), recovered := false }]) ∧ Below w.heap.size w w' := by
  have HE := Lib.hid (fun (w' : World) (h : Below w.heap.size w w') => equationsOf_any m q M Q s w' (h1.below h) (h2.below h) hp hs0 hs1)
  have HR := Lib.hid (fun B g G O C w' hT => reduce_any B g M.length M.length (2 * M.length + 1) (2 * M.length) (eqF M Q s) G O C w' hT (isPB_facts hp).1 (isPB_facts hp).2.1 (by omega) (by have := (isPB_facts hp).2.1; omega) (Nat.le_refl _) (eqF_bd hp s))
  have gg := fun (w' : World) (h : Below w.heap.size w w') => hG.below h
  obtain ⟨a1, c1, rfl, _⟩ := h1
  obtain ⟨a2, c2, rfl, _⟩ := h2
  have HD := Lib.hid ((eqF_dt M Q s).trans hD)
  clear hp hs0 hs1 hG hD
  go_enter Tryd.func50, Tryd.ntmps50
  go_wp2_with fail
  refine (HE.out _ (by (repeat' (first | (with_reducible exact Below.refl _ _) | (with_reducible assumption) | (with_reducible refine Below.alloc ?_ ?_ _) | (with_reducible refine Below.drew ?_) | (with_reducible refine below_drewN ?_ _) | (with_reducible refine Below.setCell ?_ ?_ _) | (with_reducible refine Below.trans ?_ (Below.mono (by with_reducible assumption) ?_)) | (with_reducible exact Below.size (by with_reducible assumption)) | go_size)) <;> omega)).mono ?_; rintro e w1 ⟨g, G, O, C, rfl, hT, hb1⟩
  have HRR := Lib.hid (HR.out _ _ _ _ _ _ hT)
  have hw1 : Below w.heap.size w w1 := by (repeat' (first | (with_reducible exact Below.refl _ _) | (with_reducible assumption) | (with_reducible refine Below.alloc ?_ ?_ _) | (with_reducible refine Below.drew ?_) | (with_reducible refine below_drewN ?_ _) | (with_reducible refine Below.setCell ?_ ?_ _) | (with_reducible refine Below.trans ?_ (Below.mono (by with_reducible assumption) ?_)) | (with_reducible exact Below.size (by with_reducible assumption)) | go_size)) <;> omega
  clear hT
  go_wp2_with fail
  refine HRR.out.mono ?_; rintro e w2 ⟨s', rfl, _, hb2, _⟩
  rw [HD.out, Int.mul_zero]
  have hw2 : Below w.heap.size w w2 := hw1.trans (hb2.mono (by simp; omega))
  obtain ⟨a, ha⟩ := gg _ hw2
  go_wp2_with fail
  exact ⟨rfl, ⟨_, rfl⟩, hw2⟩

set_option maxRecDepth 100000 in
set_option maxHeartbeats 4000000 in
theorem pivotOf_ok (m q : Value) (M : List (List Int)) (Q : List Int) (s : Int) (w : World) (h1 : PM.Rows w m M) (h2 : Ints w q Q) (hp : isPB M Q = true) (hs0 : 0 ≤ s) (hs1 : s < 2 ^ M.length) (hD : dt M.length (colS M s) ≠ 0) :
    Calls Tryd.prog 50 #[.agg #[m, q], .int .i64 s] w (OutV w (pvD M s) (tab M.length (pvR M s)) ((List.range M.length).map (pvS M Q s))) := by
  have HE := Lib.hid (fun (w' : World) (h : Below w.heap.size w w') => equationsOf_any m q M Q s w' (h1.below h) (h2.below h) hp hs0 hs1)
  have HR := Lib.hid (fun B g G O C w' hT => reduce_any B g M.length M.length (2 * M.length + 1) (2 * M.length) (eqF M Q s) G O C w' hT (isPB_facts hp).1 (isPB_facts hp).2.1 (by omega) (by have := (isPB_facts hp).2.1; omega) (Nat.le_refl _) (eqF_bd hp s))
  obtain ⟨f1, f2, f3, f4, f5⟩ := isPB_facts hp
  have hbx := lastT_bd (a := eqF M Q s) (c := M.length) (eqF_bd hp s) f2
  rw [← dt_T _ _ f1 f2] at hbx
  have HBE := Lib.hid (win_bd hp s)
  have HI64 := Lib.hid (rowP_I64 hp s)
  obtain ⟨i0, hi, hzz0, hzz1, hzz2⟩ := info_parts info_ints
  obtain ⟨j0, hj, hyy0, hyy1, hyy2⟩ := info_parts info_int
  obtain ⟨a1, c1, rfl, _⟩ := h1
  obtain ⟨a2, c2, rfl, _⟩ := h2
  have HD := Lib.hid (eqF_dt M Q s)
  have HDN := Lib.hid hD
  clear hp hs0 hs1 hD f3 f4 f5
  go_enter Tryd.func50, Tryd.ntmps50
  go_wp2_with fail
  refine (HE.out _ (by (repeat' (first | (with_reducible exact Below.refl _ _) | (with_reducible assumption) | (with_reducible refine Below.alloc ?_ ?_ _) | (with_reducible refine Below.drew ?_) | (with_reducible refine below_drewN ?_ _) | (with_reducible refine Below.setCell ?_ ?_ _) | (with_reducible refine Below.trans ?_ (Below.mono (by with_reducible assumption) ?_)) | (with_reducible exact Below.size (by with_reducible assumption)) | go_size)) <;> omega)).mono ?_; rintro e w1 ⟨g, G0, O0, C0, rfl, hT, hb1⟩
  have HRR := Lib.hid (HR.out _ _ _ _ _ _ hT)
  have hw1 : Below w.heap.size w w1 := by (repeat' (first | (with_reducible exact Below.refl _ _) | (with_reducible assumption) | (with_reducible refine Below.alloc ?_ ?_ _) | (with_reducible refine Below.drew ?_) | (with_reducible refine below_drewN ?_ _) | (with_reducible refine Below.setCell ?_ ?_ _) | (with_reducible refine Below.trans ?_ (Below.mono (by with_reducible assumption) ?_)) | (with_reducible exact Below.size (by with_reducible assumption)) | go_size)) <;> omega
  have hz1 : w.heap.size + 1 + 1 ≤ w1.heap.size := by have := hb1.size; simp at this; omega
  clear hT
  go_wp2_with fail
  refine HRR.out.mono ?_; rintro e w2 ⟨s', rfl, hs', hb2, htab⟩
  obtain ⟨G, O, C, f, hT, hf⟩ := htab (by rw [HD.out]; exact HDN.out)
  have e0 : w2.cell? ⟨w.heap.size + 1, 0, none⟩ = some (.int .i64 0) := (hb2.cell (p := ⟨w.heap.size + 1, 0, none⟩) (by simp)).trans ((hb1.cell (p := ⟨w.heap.size + 1, 0, none⟩) (by simp)).trans (by simp))
  have e1 : w2.cell? ⟨w.heap.size + 1, 1, none⟩ = some (.slice none 0 0) := (hb2.cell (p := ⟨w.heap.size + 1, 1, none⟩) (by simp)).trans ((hb1.cell (p := ⟨w.heap.size + 1, 1, none⟩) (by simp)).trans (by simp))
  have e2 : w2.cell? ⟨w.heap.size + 1, 2, none⟩ = some (.slice none 0 0) := (hb2.cell (p := ⟨w.heap.size + 1, 2, none⟩) (by simp)).trans ((hb1.cell (p := ⟨w.heap.size + 1, 2, none⟩) (by simp)).trans (by simp))
  have e3 : ∀ o, w2.frozen? ⟨w.heap.size + 1, o, none⟩ = false := fun o => (hb2.frozen (p := ⟨w.heap.size + 1, o, none⟩) (by simp)).trans ((hb1.frozen (p := ⟨w.heap.size + 1, o, none⟩) (by simp)).trans (by simp))
  have HE0 := Lib.hid e0
  have HE1 := Lib.hid e1
  have HE2 := Lib.hid e2
  have HE3 := Lib.hid e3
  clear e0 e1 e2 e3
  obtain ⟨X, hX⟩ : ∃ X, X = s' * dt M.length (eqF M Q s) := ⟨_, rfl⟩
  have hX2 : X = s' * dt M.length (colS M s) := by rw [hX, HD.out]
  have hXb : Bd 1920000000 X := by rw [hX]; rcases hs' with rfl | rfl <;> unfold Bd at * <;> omega
  rw [← hX]
  have hw2 : Below w.heap.size w w2 := hw1.trans (hb2.mono (by simp; omega))
  have hzw : w1.heap.size ≤ w2.heap.size := hb2.size
  unfold Bd at hXb
  obtain ⟨hXb1, hXb2⟩ := hXb
  have HT := Lib.hid hT
  have HF := Lib.hid hf
  have HS' := Lib.hid hs'
  have HX2 := Lib.hid hX2
  have hcase := den_abs hs' hX2 HDN.out
  clear hT hf hs' hX2 hX htab HRR HR HE hbx
  rcases hcase with ⟨c1, c2, c3, c4⟩ | ⟨c1, c2, c3, c4⟩
  · have hXn : ¬ X = 0 := by omega
    have C3 := Lib.hid c3
    have C4 := Lib.hid c4
    clear c3 c4
    have hDn : ¬ X = 0 := by omega
    have hlo : M.length ≤ 2 * M.length + 1 := by omega
    have hquo : X.tdiv X = 1 := by exact Int.tdiv_self (by omega)
    have HROW := Lib.hid (fun (i : Nat) (hi : i < M.length) => row_div (M := M) (Q := Q) (s := s) (i := i) HS'.out C4.out (fun k h1 h2 => HF.out i k hi h1 h2))
    have hbf : (X == 0) = false := by simpa using hXn
    go_wp2_with fail
    try simp only [hbf]
    go_loopw [11, 33] (fun _ i wr => ∃ (k : Nat) (v q : Value) (us : List Value), k ≤ M.length ∧ i = .int .i64 k ∧ PvO wr w2.heap.size X v q (rTo M s k) (sTo M Q s k) us ∧ Below w2.heap.size w2 wr) (fun _ i _ => M.length - (intOf i).toNat)
    case atStart => exact ⟨0, _, _, [], Nat.zero_le _, by go_num, PvO.start w2 X, (Below.refl _ _).alloc (Nat.le_refl _) _⟩
    case round =>
      obtain ⟨k, v, q, us, hk, rfl, hP, hB⟩ := hrel
      by_cases hlt : k < M.length
      · have hTw := HT.out.below hB
        have t0 := (hTw.top k hlt).1
        have hcap := hTw.cap k hlt
        have hcn : ¬ C k = M.length := by omega
        have hwin := hTw.window rfl hlt
        have hbdw : ∀ j, j < (rowW M.length f k).length → Bd 1920000000 ((rowW M.length f k).getD j 0) := fun j hj => by
          have hj' : j < M.length + 1 := by rw [rowW_length] at hj; exact hj
          rw [show (rowW M.length f k).getD j 0 = f k (M.length + j) by simp [rowW, hj'], HF.out k _ hlt (by omega) (by omega)]
          have := HBE.out k (M.length + j) (by omega) (by omega)
          rcases HS'.out with h | h <;> rw [h] <;> unfold Bd at * <;> omega
        have hq1 := fun (w' : World) (h : Below wr.heap.size wr w') => quotients_any _ _ 1 w' (hwin.below h) (by rw [rowW_length]; omega) hbdw (by decide) (by decide)
        rw [HROW.out k hlt, rowW_length] at hq1
        obtain ⟨mm, hmm⟩ : ∃ mm : Nat, mm = 2 * M.length + 1 := ⟨_, rfl⟩
        obtain ⟨L1, hL1⟩ : ∃ L1 : Nat, L1 = M.length + 1 := ⟨_, rfl⟩
        rw [← hmm] at t0 hcap
        rw [← hL1] at hq1
        have hsub : mm - M.length = L1 := by omega
        have i00 : (0 : Int) ≤ (M.length : Int) := by omega
        have i1 : (M.length : Int) ≤ (mm : Int) := by omega
        have i2 : M.length ≤ mm := by omega
        have i3 : (M.length : Int) ≤ (L1 : Int) := by omega
        have i4 : M.length ≤ L1 := by omega
        have i5 : (M.length : Int) < (L1 : Int) := by omega
        have i6 : M.length < L1 := by omega
        have i7 : L1 ≤ 6 := by omega
        have HMM := Lib.hid hmm
        have HL1 := Lib.hid hL1
        clear hmm hL1
        have HQ1 := Lib.hid hq1
        have HP := Lib.hid hP
        have HB := Lib.hid hB
        have hN := hP.lt
        have r0 : ∀ w', Below wr.heap.size wr w' → w'.cell? ⟨w2.heap.size, 0, none⟩ = some (.int .i64 X) := fun w' h => (h.cell (p := ⟨w2.heap.size, 0, none⟩) hN).trans hP.c0
        clear hTw hwin hbdw hq1 hP hB
        go_wp2_with fail
        go_region_held3 (fun w' => Below wr.heap.size wr w') ((repeat' (first | (with_reducible exact Below.refl _ _) | (with_reducible assumption) | (with_reducible refine Below.alloc ?_ ?_ _) | (with_reducible refine Below.drew ?_) | (with_reducible refine below_drewN ?_ _) | (with_reducible refine Below.setCell ?_ ?_ _) | (with_reducible refine Below.trans ?_ (Below.mono (by with_reducible assumption) ?_)) | (with_reducible exact Below.size (by with_reducible assumption)) | go_size)))
          (first | (go_at_call 54; refine (HQ1.out _ (by (repeat' (first | (with_reducible exact Below.refl _ _) | (with_reducible assumption) | (with_reducible refine Below.alloc ?_ ?_ _) | (with_reducible refine Below.drew ?_) | (with_reducible refine below_drewN ?_ _) | (with_reducible refine Below.setCell ?_ ?_ _) | (with_reducible refine Below.trans ?_ (Below.mono (by with_reducible assumption) ?_)) | (with_reducible exact Below.size (by with_reducible assumption)) | go_size)))).mono ?_; rintro e w3 ⟨g3, cap3, rfl, hf3, hb3⟩; have hS3 : Below wr.heap.size wr w3 := (by (repeat' (first | (with_reducible exact Below.refl _ _) | (with_reducible assumption) | (with_reducible refine Below.alloc ?_ ?_ _) | (with_reducible refine Below.drew ?_) | (with_reducible refine below_drewN ?_ _) | (with_reducible refine Below.setCell ?_ ?_ _) | (with_reducible refine Below.trans ?_ (Below.mono (by with_reducible assumption) ?_)) | (with_reducible exact Below.size (by with_reducible assumption)) | go_size))); have HF3 := Lib.hid hf3; clear hf3))
        have HP3 := Lib.hid (HP.out.below hS3)
        have hN3 : w2.heap.size < w3.heap.size := Nat.lt_of_lt_of_le hN hS3.size
        have q1 : ∀ w', Below w3.heap.size w3 w' → w'.cell? ⟨w2.heap.size, 1, none⟩ = some v := fun w' h => (h.cell (p := ⟨w2.heap.size, 1, none⟩) hN3).trans HP3.out.c1
        have qc1 := HP3.out.c1
        have hcap3 : L1 ≤ cap3 := by obtain ⟨_, _, _, _, _, ho⟩ := HF3.out; exact own_le ho
        have hcap4 : M.length ≤ cap3 := by omega
        have hcap5 : (M.length : Int) ≤ (cap3 : Int) := by omega
        have HOV := Lib.hid (fun W (h : Below w3.heap.size w3 W) => HP3.out.ownV h (rTo_length M s k))
        have hcl := fun (w' : World) (h : Below w3.heap.size w3 w') => (clone_any (.slice (some ⟨g3, 0, none⟩) M.length cap3) ((List.range M.length).map (pvR M s k)) w' (by
          obtain ⟨g', c', hv', _, _, ho⟩ := HF3.out
          rw [HL1.out] at hv' ho
          have hl := rowP_length M Q s k
          rw [hl] at hv'
          simp only [Value.slice.injEq, Option.some.injEq, Addr.mk.injEq, and_true, true_and] at hv'
          obtain ⟨rfl, rfl⟩ := hv'
          rw [← hl] at ho
          have := own_take ho (n := M.length) (by rw [hl]; omega) (HI64.out k)
          rw [rowP_take] at this
          exact this.below h) (by intro c; have := congrArg List.length c; rw [row_length, List.length_nil] at this; omega) (by rw [row_length]; omega)).mono (R' := fun e w2 => ∃ g4 cap4, e = .returned (.slice (some ⟨g4, 0, none⟩) M.length cap4) ∧ FreshI w'.heap.size w2 (.slice (some ⟨g4, 0, none⟩) M.length cap4) ((List.range M.length).map (pvR M s k)) ∧ Below w'.heap.size w' w2) (fun e w2 he => by
          obtain ⟨u, rfl, hf, hb⟩ := he
          have hf' := hf
          obtain ⟨g4, cap4, rfl, _⟩ := hf'
          rw [row_length] at hf ⊢
          exact ⟨g4, cap4, rfl, hf, hb⟩)
        have HCL := Lib.hid hcl
        have HFL := Lib.hid (show w3.cell? ⟨g3, M.length, none⟩ = some (.int .i64 (pvS M Q s k)) ∧ wr.heap.size ≤ g3 by
          obtain ⟨g', c', hv', hg', _, ho⟩ := HF3.out
          have hl := rowP_length M Q s k
          rw [HL1.out] at hv' ho
          rw [hl] at hv'
          simp only [Value.slice.injEq, Option.some.injEq, Addr.mk.injEq, and_true, true_and] at hv'
          obtain ⟨rfl, rfl⟩ := hv'
          refine ⟨?_, by simpa using hg'⟩
          rw [own_cellN ho hl.symm (show M.length < M.length + 1 by omega), rowP_last])
        clear hcl hb3 HQ1 r0
        go_wp2_with fail
        go_region_law (first | (go_simp; go_at_call 76; refine (HCL.out _ (by (repeat' (first | (with_reducible exact Below.refl _ _) | (with_reducible assumption) | (with_reducible refine Below.alloc ?_ ?_ _) | (with_reducible refine Below.drew ?_) | (with_reducible refine below_drewN ?_ _) | (with_reducible refine Below.setCell ?_ ?_ _) | (with_reducible refine Below.trans ?_ (Below.mono (by with_reducible assumption) ?_)) | (with_reducible exact Below.size (by with_reducible assumption)) | go_size)))).mono ?_; rintro e w4 ⟨g4, cap4, rfl, hf4, hb4⟩; have hS4 : Below w3.heap.size w3 w4 := (by (repeat' (first | (with_reducible exact Below.refl _ _) | (with_reducible assumption) | (with_reducible refine Below.alloc ?_ ?_ _) | (with_reducible refine Below.drew ?_) | (with_reducible refine below_drewN ?_ _) | (with_reducible refine Below.setCell ?_ ?_ _) | (with_reducible refine Below.trans ?_ (Below.mono (by with_reducible assumption) ?_)) | (with_reducible exact Below.size (by with_reducible assumption)) | go_size))); have hN4 : w2.heap.size < w4.heap.size := (Nat.lt_of_lt_of_le hN3 hS4.size); have HF4 := Lib.hid hf4; clear hf4) | (refine step_append_lies _ rfl _ _ 22 rfl 0 23 i0 (.slice none 0 0) 1 24 Tryd.underlying22 hi hzz0 hzz1 hzz2 rfl (by decide) v k us rfl (HOV.out _ (by (repeat' (first | (with_reducible exact Below.refl _ _) | (with_reducible assumption) | (with_reducible refine Below.alloc ?_ ?_ _) | (with_reducible refine Below.drew ?_) | (with_reducible refine below_drewN ?_ _) | (with_reducible refine Below.setCell ?_ ?_ _) | (with_reducible refine Below.trans ?_ (Below.mono (by with_reducible assumption) ?_)) | (with_reducible exact Below.size (by with_reducible assumption)) | go_size)))) _ 1 _ [.slice (some ⟨g4, 0, none⟩) M.length cap4] rfl rfl (cell_one_new _ _ _) (by simp [Value.oneCell']) (by decide) (by unfold maxLen; omega) (by omega) (Nat.zero_le _) _ rfl ?_; intro g5 cap5 w5 hown hgrow hat hlt5; obtain ⟨hs5, hcN, hfN⟩ := HP3.out.far (by (repeat' (first | (with_reducible exact Below.refl _ _) | (with_reducible assumption) | (with_reducible refine Below.alloc ?_ ?_ _) | (with_reducible refine Below.drew ?_) | (with_reducible refine below_drewN ?_ _) | (with_reducible refine Below.setCell ?_ ?_ _) | (with_reducible refine Below.trans ?_ (Below.mono (by with_reducible assumption) ?_)) | (with_reducible exact Below.size (by with_reducible assumption)) | go_size))) hgrow (fun b hb => (HP3.out.rows.mb b hb).1); have hcN1 := (hcN 1).trans HP3.out.c1; have hfN1 := hfN 1; have hP5 := HP3.out.rowF (by (repeat' (first | (with_reducible exact Below.refl _ _) | (with_reducible assumption) | (with_reducible refine Below.alloc ?_ ?_ _) | (with_reducible refine Below.drew ?_) | (with_reducible refine below_drewN ?_ _) | (with_reducible refine Below.setCell ?_ ?_ _) | (with_reducible refine Below.trans ?_ (Below.mono (by with_reducible assumption) ?_)) | (with_reducible exact Below.size (by with_reducible assumption)) | go_size))) (HF4.out.below (by (repeat' (first | (with_reducible exact Below.refl _ _) | (with_reducible assumption) | (with_reducible refine Below.alloc ?_ ?_ _) | (with_reducible refine Below.drew ?_) | (with_reducible refine below_drewN ?_ _) | (with_reducible refine Below.setCell ?_ ?_ _) | (with_reducible refine Below.trans ?_ (Below.mono (by with_reducible assumption) ?_)) | (with_reducible exact Below.size (by with_reducible assumption)) | go_size)))) (by first | exact Nat.le_refl _ | simp) (rTo_length M s k) hown hgrow hat; have hc5 := PvO.keepNew (wr := wr) (N := w2.heap.size) (o := 1) (y := .slice (some ⟨g5, 0, none⟩) (k + 1) cap5) hgrow (fun b hb => (HP.out.rows.mb b hb).2) HFL.out.2 hN ((Below.cell (p := ⟨g3, M.length, none⟩) (show Below w3.heap.size w3 _ by (repeat' (first | (with_reducible exact Below.refl _ _) | (with_reducible assumption) | (with_reducible refine Below.alloc ?_ ?_ _) | (with_reducible refine Below.drew ?_) | (with_reducible refine below_drewN ?_ _) | (with_reducible refine Below.setCell ?_ ?_ _) | (with_reducible refine Below.trans ?_ (Below.mono (by with_reducible assumption) ?_)) | (with_reducible exact Below.size (by with_reducible assumption)) | go_size))) (World.block_lt_of_cell? w3 _ HFL.out.1)).trans HFL.out.1); have hB5 := PvO.low (o := 1) (y := .slice (some ⟨g5, 0, none⟩) (k + 1) cap5) HB.out (Nat.le_refl _) hN (show Below wr.heap.size wr _ from hS3.trans (Below.mono (by (repeat' (first | (with_reducible exact Below.refl _ _) | (with_reducible assumption) | (with_reducible refine Below.alloc ?_ ?_ _) | (with_reducible refine Below.drew ?_) | (with_reducible refine below_drewN ?_ _) | (with_reducible refine Below.setCell ?_ ?_ _) | (with_reducible refine Below.trans ?_ (Below.mono (by with_reducible assumption) ?_)) | (with_reducible exact Below.size (by with_reducible assumption)) | go_size))) hS3.size)) hgrow (fun b hb => (HP.out.rows.mb b hb).1); have HP5 := Lib.hid hP5; have HC5 := Lib.hid hc5; have HB5 := Lib.hid hB5; clear hP5 hc5 hB5 hown hgrow hat hcN hfN))
        all_goals
          obtain ⟨W6, hW6⟩ : ∃ W6, W6 = w5.setCell ⟨w2.heap.size, 1, none⟩ (.slice (some ⟨g5, 0, none⟩) (k + 1) cap5) := ⟨_, rfl⟩
          have hP6 := HP5.out
          have hB6 := HB5.out
          have c6 := HC5.out
          rw [← rTo_succ] at hP6
          rw [← hW6] at hP6 hB6 c6 ⊢
          clear hW6 HP5 HB5 HC5 hcN1 hfN1 hlt5 hs5 hS4 hN4 HF4 hb4 HOV HCL HFL q1 qc1 HP3 hN3 HF3 hS3
          have p62 := hP6.c2
          have z62 := hP6.nf 2
          have hN6 := hP6.lt
          have HSS := Lib.hid (sTo_succ M Q s k)
          have HOQ := Lib.hid (fun W (h : Below W6.heap.size W6 W) => hP6.ownQ h (sTo_length M Q s k))
          have HP6 := Lib.hid hP6
          have HB6 := Lib.hid hB6
          clear hP6 hB6
          generalize pvS M Q s k = Y at *
          go_wp2_with fail
          go_region_law (first | (refine step_append_lies _ rfl _ _ 23 rfl 0 2 j0 (.int .i64 0) 1 8 Tryd.underlying23 hj hyy0 hyy1 hyy2 rfl (by decide) q k ((sTo M Q s k).map (Value.int .i64)) rfl (HOQ.out _ (by (repeat' (first | (with_reducible exact Below.refl _ _) | (with_reducible assumption) | (with_reducible refine Below.alloc ?_ ?_ _) | (with_reducible refine Below.drew ?_) | (with_reducible refine below_drewN ?_ _) | (with_reducible refine Below.setCell ?_ ?_ _) | (with_reducible refine Below.trans ?_ (Below.mono (by with_reducible assumption) ?_)) | (with_reducible exact Below.size (by with_reducible assumption)) | go_size)))) _ 1 _ [.int .i64 Y] rfl rfl (cell_one_new _ _ _) (by simp [Value.oneCell']) (by decide) (by unfold maxLen; omega) (by omega) (Nat.zero_le _) _ rfl ?_; intro g7 cap7 w7 hown hgrow hat hlt7; obtain ⟨hs7, hcN, hfN⟩ := HP6.out.far (by (repeat' (first | (with_reducible exact Below.refl _ _) | (with_reducible assumption) | (with_reducible refine Below.alloc ?_ ?_ _) | (with_reducible refine Below.drew ?_) | (with_reducible refine below_drewN ?_ _) | (with_reducible refine Below.setCell ?_ ?_ _) | (with_reducible refine Below.trans ?_ (Below.mono (by with_reducible assumption) ?_)) | (with_reducible exact Below.size (by with_reducible assumption)) | go_size))) hgrow (fun b hb => (HP6.out.qb b hb).1); have hcN2 := (hcN 2).trans HP6.out.c2; have hfN2 := hfN 2; have hP7 := HP6.out.numF (by (repeat' (first | (with_reducible exact Below.refl _ _) | (with_reducible assumption) | (with_reducible refine Below.alloc ?_ ?_ _) | (with_reducible refine Below.drew ?_) | (with_reducible refine below_drewN ?_ _) | (with_reducible refine Below.setCell ?_ ?_ _) | (with_reducible refine Below.trans ?_ (Below.mono (by with_reducible assumption) ?_)) | (with_reducible exact Below.size (by with_reducible assumption)) | go_size))) (sTo_length M Q s k) hown hgrow hat hlt7; rw [← HSS.out] at hP7; have hB7 := PvO.low (o := 2) (y := .slice (some ⟨g7, 0, none⟩) (k + 1) cap7) HB6.out (Nat.le_refl _) hN6 (by (repeat' (first | (with_reducible exact Below.refl _ _) | (with_reducible assumption) | (with_reducible refine Below.alloc ?_ ?_ _) | (with_reducible refine Below.drew ?_) | (with_reducible refine below_drewN ?_ _) | (with_reducible refine Below.setCell ?_ ?_ _) | (with_reducible refine Below.trans ?_ (Below.mono (by with_reducible assumption) ?_)) | (with_reducible exact Below.size (by with_reducible assumption)) | go_size))) hgrow (fun b hb => (HP6.out.qb b hb).1); have HP7 := Lib.hid hP7; have HB7 := Lib.hid hB7; clear hP7 hB7 hown hgrow hat hcN hfN))
          all_goals
            go_wp2_with fail
            go_roundw
            case rel => exact ⟨k + 1, _, _, _, by omega, by go_num, HP7.out, HB7.out⟩
            case measure => simp [intOf]; omega
      · obtain rfl : k = M.length := by omega
        obtain ⟨av, cv, rfl⟩ := hP.rows.shape
        obtain ⟨aq, cq, rfl⟩ := own_shape hP.side
        have n0 := hP.c0
        have n1 := hP.c1
        have n2 := hP.c2
        have hsz := hB.size
        have hl2 : w.heap.size + 1 < w2.heap.size := by omega
        have m0 := (hB.cell (p := ⟨w.heap.size + 1, 0, none⟩) hl2).trans HE0.out
        have m1 := (hB.cell (p := ⟨w.heap.size + 1, 1, none⟩) hl2).trans HE1.out
        have m2 := (hB.cell (p := ⟨w.heap.size + 1, 2, none⟩) hl2).trans HE2.out
        have m3 := fun o => (hB.frozen (p := ⟨w.heap.size + 1, o, none⟩) hl2).trans (HE3.out o)
        have hlw : w.heap.size + 1 < wr.heap.size := by omega
        have HP := Lib.hid hP
        have HB := Lib.hid (hw2.trans (hB.mono hw2.size))
        clear hP hB
        go_wp2_with fail
        refine bodyPost_ret (v := .agg #[.int .i64 X, .slice av (rTo M s M.length).length cv, .slice aq (sTo M Q s M.length).length cq]) (by simp [*, results, Tryd.results50, go_sem]) rfl ?_
        have ht : Tch [w.heap.size + 1] wr (((wr.setCell ⟨w.heap.size + 1, 0, none⟩ (.int .i64 X)).setCell ⟨w.heap.size + 1, 1, none⟩ (.slice av (rTo M s M.length).length cv)).setCell ⟨w.heap.size + 1, 2, none⟩ (.slice aq (sTo M Q s M.length).length cq)) := (((Tch.refl _ _).setCell (by simp) _).setCell (by simp) _).setCell (by simp) _
        have := HP.out.outV (w := w) ht (by omega) (by omega) (((HB.out.setCell (by simp) _).setCell (by simp) _).setCell (by simp) _)
        rw [show pvD M s = X from C3.out.symm]
        exact this
  · have hXn : ¬ X = 0 := by omega
    have C3 := Lib.hid c3
    have C4 := Lib.hid c4
    clear c3 c4
    have hDn : ¬ (-X) = 0 := by omega
    have hlo : M.length ≤ 2 * M.length + 1 := by omega
    have hquo : X.tdiv (-X) = (-1) := by rw [Int.tdiv_neg, Int.tdiv_self (by omega)]
    have HROW := Lib.hid (fun (i : Nat) (hi : i < M.length) => row_div (M := M) (Q := Q) (s := s) (i := i) HS'.out C4.out (fun k h1 h2 => HF.out i k hi h1 h2))
    have hbf : (X == 0) = false := by simpa using hXn
    go_wp2_with fail
    try simp only [hbf]
    go_loopw [11, 33] (fun _ i wr => ∃ (k : Nat) (v q : Value) (us : List Value), k ≤ M.length ∧ i = .int .i64 k ∧ PvO wr w2.heap.size (-X) v q (rTo M s k) (sTo M Q s k) us ∧ Below w2.heap.size w2 wr) (fun _ i _ => M.length - (intOf i).toNat)
    case atStart => exact ⟨0, _, _, [], Nat.zero_le _, by go_num, PvO.start w2 (-X), (Below.refl _ _).alloc (Nat.le_refl _) _⟩
    case round =>
      obtain ⟨k, v, q, us, hk, rfl, hP, hB⟩ := hrel
      by_cases hlt : k < M.length
      · have hTw := HT.out.below hB
        have t0 := (hTw.top k hlt).1
        have hcap := hTw.cap k hlt
        have hcn : ¬ C k = M.length := by omega
        have hwin := hTw.window rfl hlt
        have hbdw : ∀ j, j < (rowW M.length f k).length → Bd 1920000000 ((rowW M.length f k).getD j 0) := fun j hj => by
          have hj' : j < M.length + 1 := by rw [rowW_length] at hj; exact hj
          rw [show (rowW M.length f k).getD j 0 = f k (M.length + j) by simp [rowW, hj'], HF.out k _ hlt (by omega) (by omega)]
          have := HBE.out k (M.length + j) (by omega) (by omega)
          rcases HS'.out with h | h <;> rw [h] <;> unfold Bd at * <;> omega
        have hq1 := fun (w' : World) (h : Below wr.heap.size wr w') => quotients_any _ _ (-1) w' (hwin.below h) (by rw [rowW_length]; omega) hbdw (by decide) (by decide)
        rw [HROW.out k hlt, rowW_length] at hq1
        obtain ⟨mm, hmm⟩ : ∃ mm : Nat, mm = 2 * M.length + 1 := ⟨_, rfl⟩
        obtain ⟨L1, hL1⟩ : ∃ L1 : Nat, L1 = M.length + 1 := ⟨_, rfl⟩
        rw [← hmm] at t0 hcap
        rw [← hL1] at hq1
        have hsub : mm - M.length = L1 := by omega
        have i00 : (0 : Int) ≤ (M.length : Int) := by omega
        have i1 : (M.length : Int) ≤ (mm : Int) := by omega
        have i2 : M.length ≤ mm := by omega
        have i3 : (M.length : Int) ≤ (L1 : Int) := by omega
        have i4 : M.length ≤ L1 := by omega
        have i5 : (M.length : Int) < (L1 : Int) := by omega
        have i6 : M.length < L1 := by omega
        have i7 : L1 ≤ 6 := by omega
        have HMM := Lib.hid hmm
        have HL1 := Lib.hid hL1
        clear hmm hL1
        have HQ1 := Lib.hid hq1
        have HP := Lib.hid hP
        have HB := Lib.hid hB
        have hN := hP.lt
        have r0 : ∀ w', Below wr.heap.size wr w' → w'.cell? ⟨w2.heap.size, 0, none⟩ = some (.int .i64 (-X)) := fun w' h => (h.cell (p := ⟨w2.heap.size, 0, none⟩) hN).trans hP.c0
        clear hTw hwin hbdw hq1 hP hB
        go_wp2_with fail
        go_region_held3 (fun w' => Below wr.heap.size wr w') ((repeat' (first | (with_reducible exact Below.refl _ _) | (with_reducible assumption) | (with_reducible refine Below.alloc ?_ ?_ _) | (with_reducible refine Below.drew ?_) | (with_reducible refine below_drewN ?_ _) | (with_reducible refine Below.setCell ?_ ?_ _) | (with_reducible refine Below.trans ?_ (Below.mono (by with_reducible assumption) ?_)) | (with_reducible exact Below.size (by with_reducible assumption)) | go_size)))
          (first | (go_at_call 54; refine (HQ1.out _ (by (repeat' (first | (with_reducible exact Below.refl _ _) | (with_reducible assumption) | (with_reducible refine Below.alloc ?_ ?_ _) | (with_reducible refine Below.drew ?_) | (with_reducible refine below_drewN ?_ _) | (with_reducible refine Below.setCell ?_ ?_ _) | (with_reducible refine Below.trans ?_ (Below.mono (by with_reducible assumption) ?_)) | (with_reducible exact Below.size (by with_reducible assumption)) | go_size)))).mono ?_; rintro e w3 ⟨g3, cap3, rfl, hf3, hb3⟩; have hS3 : Below wr.heap.size wr w3 := (by (repeat' (first | (with_reducible exact Below.refl _ _) | (with_reducible assumption) | (with_reducible refine Below.alloc ?_ ?_ _) | (with_reducible refine Below.drew ?_) | (with_reducible refine below_drewN ?_ _) | (with_reducible refine Below.setCell ?_ ?_ _) | (with_reducible refine Below.trans ?_ (Below.mono (by with_reducible assumption) ?_)) | (with_reducible exact Below.size (by with_reducible assumption)) | go_size))); have HF3 := Lib.hid hf3; clear hf3))
        have HP3 := Lib.hid (HP.out.below hS3)
        have hN3 : w2.heap.size < w3.heap.size := Nat.lt_of_lt_of_le hN hS3.size
        have q1 : ∀ w', Below w3.heap.size w3 w' → w'.cell? ⟨w2.heap.size, 1, none⟩ = some v := fun w' h => (h.cell (p := ⟨w2.heap.size, 1, none⟩) hN3).trans HP3.out.c1
        have qc1 := HP3.out.c1
        have hcap3 : L1 ≤ cap3 := by obtain ⟨_, _, _, _, _, ho⟩ := HF3.out; exact own_le ho
        have hcap4 : M.length ≤ cap3 := by omega
        have hcap5 : (M.length : Int) ≤ (cap3 : Int) := by omega
        have HOV := Lib.hid (fun W (h : Below w3.heap.size w3 W) => HP3.out.ownV h (rTo_length M s k))
        have hcl := fun (w' : World) (h : Below w3.heap.size w3 w') => (clone_any (.slice (some ⟨g3, 0, none⟩) M.length cap3) ((List.range M.length).map (pvR M s k)) w' (by
          obtain ⟨g', c', hv', _, _, ho⟩ := HF3.out
          rw [HL1.out] at hv' ho
          have hl := rowP_length M Q s k
          rw [hl] at hv'
          simp only [Value.slice.injEq, Option.some.injEq, Addr.mk.injEq, and_true, true_and] at hv'
          obtain ⟨rfl, rfl⟩ := hv'
          rw [← hl] at ho
          have := own_take ho (n := M.length) (by rw [hl]; omega) (HI64.out k)
          rw [rowP_take] at this
          exact this.below h) (by intro c; have := congrArg List.length c; rw [row_length, List.length_nil] at this; omega) (by rw [row_length]; omega)).mono (R' := fun e w2 => ∃ g4 cap4, e = .returned (.slice (some ⟨g4, 0, none⟩) M.length cap4) ∧ FreshI w'.heap.size w2 (.slice (some ⟨g4, 0, none⟩) M.length cap4) ((List.range M.length).map (pvR M s k)) ∧ Below w'.heap.size w' w2) (fun e w2 he => by
          obtain ⟨u, rfl, hf, hb⟩ := he
          have hf' := hf
          obtain ⟨g4, cap4, rfl, _⟩ := hf'
          rw [row_length] at hf ⊢
          exact ⟨g4, cap4, rfl, hf, hb⟩)
        have HCL := Lib.hid hcl
        have HFL := Lib.hid (show w3.cell? ⟨g3, M.length, none⟩ = some (.int .i64 (pvS M Q s k)) ∧ wr.heap.size ≤ g3 by
          obtain ⟨g', c', hv', hg', _, ho⟩ := HF3.out
          have hl := rowP_length M Q s k
          rw [HL1.out] at hv' ho
          rw [hl] at hv'
          simp only [Value.slice.injEq, Option.some.injEq, Addr.mk.injEq, and_true, true_and] at hv'
          obtain ⟨rfl, rfl⟩ := hv'
          refine ⟨?_, by simpa using hg'⟩
          rw [own_cellN ho hl.symm (show M.length < M.length + 1 by omega), rowP_last])
        clear hcl hb3 HQ1 r0
        go_wp2_with fail
        go_region_law (first | (go_simp; go_at_call 76; refine (HCL.out _ (by (repeat' (first | (with_reducible exact Below.refl _ _) | (with_reducible assumption) | (with_reducible refine Below.alloc ?_ ?_ _) | (with_reducible refine Below.drew ?_) | (with_reducible refine below_drewN ?_ _) | (with_reducible refine Below.setCell ?_ ?_ _) | (with_reducible refine Below.trans ?_ (Below.mono (by with_reducible assumption) ?_)) | (with_reducible exact Below.size (by with_reducible assumption)) | go_size)))).mono ?_; rintro e w4 ⟨g4, cap4, rfl, hf4, hb4⟩; have hS4 : Below w3.heap.size w3 w4 := (by (repeat' (first | (with_reducible exact Below.refl _ _) | (with_reducible assumption) | (with_reducible refine Below.alloc ?_ ?_ _) | (with_reducible refine Below.drew ?_) | (with_reducible refine below_drewN ?_ _) | (with_reducible refine Below.setCell ?_ ?_ _) | (with_reducible refine Below.trans ?_ (Below.mono (by with_reducible assumption) ?_)) | (with_reducible exact Below.size (by with_reducible assumption)) | go_size))); have hN4 : w2.heap.size < w4.heap.size := (Nat.lt_of_lt_of_le hN3 hS4.size); have HF4 := Lib.hid hf4; clear hf4) | (refine step_append_lies _ rfl _ _ 22 rfl 0 23 i0 (.slice none 0 0) 1 24 Tryd.underlying22 hi hzz0 hzz1 hzz2 rfl (by decide) v k us rfl (HOV.out _ (by (repeat' (first | (with_reducible exact Below.refl _ _) | (with_reducible assumption) | (with_reducible refine Below.alloc ?_ ?_ _) | (with_reducible refine Below.drew ?_) | (with_reducible refine below_drewN ?_ _) | (with_reducible refine Below.setCell ?_ ?_ _) | (with_reducible refine Below.trans ?_ (Below.mono (by with_reducible assumption) ?_)) | (with_reducible exact Below.size (by with_reducible assumption)) | go_size)))) _ 1 _ [.slice (some ⟨g4, 0, none⟩) M.length cap4] rfl rfl (cell_one_new _ _ _) (by simp [Value.oneCell']) (by decide) (by unfold maxLen; omega) (by omega) (Nat.zero_le _) _ rfl ?_; intro g5 cap5 w5 hown hgrow hat hlt5; obtain ⟨hs5, hcN, hfN⟩ := HP3.out.far (by (repeat' (first | (with_reducible exact Below.refl _ _) | (with_reducible assumption) | (with_reducible refine Below.alloc ?_ ?_ _) | (with_reducible refine Below.drew ?_) | (with_reducible refine below_drewN ?_ _) | (with_reducible refine Below.setCell ?_ ?_ _) | (with_reducible refine Below.trans ?_ (Below.mono (by with_reducible assumption) ?_)) | (with_reducible exact Below.size (by with_reducible assumption)) | go_size))) hgrow (fun b hb => (HP3.out.rows.mb b hb).1); have hcN1 := (hcN 1).trans HP3.out.c1; have hfN1 := hfN 1; have hP5 := HP3.out.rowF (by (repeat' (first | (with_reducible exact Below.refl _ _) | (with_reducible assumption) | (with_reducible refine Below.alloc ?_ ?_ _) | (with_reducible refine Below.drew ?_) | (with_reducible refine below_drewN ?_ _) | (with_reducible refine Below.setCell ?_ ?_ _) | (with_reducible refine Below.trans ?_ (Below.mono (by with_reducible assumption) ?_)) | (with_reducible exact Below.size (by with_reducible assumption)) | go_size))) (HF4.out.below (by (repeat' (first | (with_reducible exact Below.refl _ _) | (with_reducible assumption) | (with_reducible refine Below.alloc ?_ ?_ _) | (with_reducible refine Below.drew ?_) | (with_reducible refine below_drewN ?_ _) | (with_reducible refine Below.setCell ?_ ?_ _) | (with_reducible refine Below.trans ?_ (Below.mono (by with_reducible assumption) ?_)) | (with_reducible exact Below.size (by with_reducible assumption)) | go_size)))) (by first | exact Nat.le_refl _ | simp) (rTo_length M s k) hown hgrow hat; have hc5 := PvO.keepNew (wr := wr) (N := w2.heap.size) (o := 1) (y := .slice (some ⟨g5, 0, none⟩) (k + 1) cap5) hgrow (fun b hb => (HP.out.rows.mb b hb).2) HFL.out.2 hN ((Below.cell (p := ⟨g3, M.length, none⟩) (show Below w3.heap.size w3 _ by (repeat' (first | (with_reducible exact Below.refl _ _) | (with_reducible assumption) | (with_reducible refine Below.alloc ?_ ?_ _) | (with_reducible refine Below.drew ?_) | (with_reducible refine below_drewN ?_ _) | (with_reducible refine Below.setCell ?_ ?_ _) | (with_reducible refine Below.trans ?_ (Below.mono (by with_reducible assumption) ?_)) | (with_reducible exact Below.size (by with_reducible assumption)) | go_size))) (World.block_lt_of_cell? w3 _ HFL.out.1)).trans HFL.out.1); have hB5 := PvO.low (o := 1) (y := .slice (some ⟨g5, 0, none⟩) (k + 1) cap5) HB.out (Nat.le_refl _) hN (show Below wr.heap.size wr _ from hS3.trans (Below.mono (by (repeat' (first | (with_reducible exact Below.refl _ _) | (with_reducible assumption) | (with_reducible refine Below.alloc ?_ ?_ _) | (with_reducible refine Below.drew ?_) | (with_reducible refine below_drewN ?_ _) | (with_reducible refine Below.setCell ?_ ?_ _) | (with_reducible refine Below.trans ?_ (Below.mono (by with_reducible assumption) ?_)) | (with_reducible exact Below.size (by with_reducible assumption)) | go_size))) hS3.size)) hgrow (fun b hb => (HP.out.rows.mb b hb).1); have HP5 := Lib.hid hP5; have HC5 := Lib.hid hc5; have HB5 := Lib.hid hB5; clear hP5 hc5 hB5 hown hgrow hat hcN hfN))
        all_goals
          obtain ⟨W6, hW6⟩ : ∃ W6, W6 = w5.setCell ⟨w2.heap.size, 1, none⟩ (.slice (some ⟨g5, 0, none⟩) (k + 1) cap5) := ⟨_, rfl⟩
          have hP6 := HP5.out
          have hB6 := HB5.out
          have c6 := HC5.out
          rw [← rTo_succ] at hP6
          rw [← hW6] at hP6 hB6 c6 ⊢
          clear hW6 HP5 HB5 HC5 hcN1 hfN1 hlt5 hs5 hS4 hN4 HF4 hb4 HOV HCL HFL q1 qc1 HP3 hN3 HF3 hS3
          have p62 := hP6.c2
          have z62 := hP6.nf 2
          have hN6 := hP6.lt
          have HSS := Lib.hid (sTo_succ M Q s k)
          have HOQ := Lib.hid (fun W (h : Below W6.heap.size W6 W) => hP6.ownQ h (sTo_length M Q s k))
          have HP6 := Lib.hid hP6
          have HB6 := Lib.hid hB6
          clear hP6 hB6
          generalize pvS M Q s k = Y at *
          go_wp2_with fail
          go_region_law (first | (refine step_append_lies _ rfl _ _ 23 rfl 0 2 j0 (.int .i64 0) 1 8 Tryd.underlying23 hj hyy0 hyy1 hyy2 rfl (by decide) q k ((sTo M Q s k).map (Value.int .i64)) rfl (HOQ.out _ (by (repeat' (first | (with_reducible exact Below.refl _ _) | (with_reducible assumption) | (with_reducible refine Below.alloc ?_ ?_ _) | (with_reducible refine Below.drew ?_) | (with_reducible refine below_drewN ?_ _) | (with_reducible refine Below.setCell ?_ ?_ _) | (with_reducible refine Below.trans ?_ (Below.mono (by with_reducible assumption) ?_)) | (with_reducible exact Below.size (by with_reducible assumption)) | go_size)))) _ 1 _ [.int .i64 Y] rfl rfl (cell_one_new _ _ _) (by simp [Value.oneCell']) (by decide) (by unfold maxLen; omega) (by omega) (Nat.zero_le _) _ rfl ?_; intro g7 cap7 w7 hown hgrow hat hlt7; obtain ⟨hs7, hcN, hfN⟩ := HP6.out.far (by (repeat' (first | (with_reducible exact Below.refl _ _) | (with_reducible assumption) | (with_reducible refine Below.alloc ?_ ?_ _) | (with_reducible refine Below.drew ?_) | (with_reducible refine below_drewN ?_ _) | (with_reducible refine Below.setCell ?_ ?_ _) | (with_reducible refine Below.trans ?_ (Below.mono (by with_reducible assumption) ?_)) | (with_reducible exact Below.size (by with_reducible assumption)) | go_size))) hgrow (fun b hb => (HP6.out.qb b hb).1); have hcN2 := (hcN 2).trans HP6.out.c2; have hfN2 := hfN 2; have hP7 := HP6.out.numF (by (repeat' (first | (with_reducible exact Below.refl _ _) | (with_reducible assumption) | (with_reducible refine Below.alloc ?_ ?_ _) | (with_reducible refine Below.drew ?_) | (with_reducible refine below_drewN ?_ _) | (with_reducible refine Below.setCell ?_ ?_ _) | (with_reducible refine Below.trans ?_ (Below.mono (by with_reducible assumption) ?_)) | (with_reducible exact Below.size (by with_reducible assumption)) | go_size))) (sTo_length M Q s k) hown hgrow hat hlt7; rw [← HSS.out] at hP7; have hB7 := PvO.low (o := 2) (y := .slice (some ⟨g7, 0, none⟩) (k + 1) cap7) HB6.out (Nat.le_refl _) hN6 (by (repeat' (first | (with_reducible exact Below.refl _ _) | (with_reducible assumption) | (with_reducible refine Below.alloc ?_ ?_ _) | (with_reducible refine Below.drew ?_) | (with_reducible refine below_drewN ?_ _) | (with_reducible refine Below.setCell ?_ ?_ _) | (with_reducible refine Below.trans ?_ (Below.mono (by with_reducible assumption) ?_)) | (with_reducible exact Below.size (by with_reducible assumption)) | go_size))) hgrow (fun b hb => (HP6.out.qb b hb).1); have HP7 := Lib.hid hP7; have HB7 := Lib.hid hB7; clear hP7 hB7 hown hgrow hat hcN hfN))
          all_goals
            go_wp2_with fail
            go_roundw
            case rel => exact ⟨k + 1, _, _, _, by omega, by go_num, HP7.out, HB7.out⟩
            case measure => simp [intOf]; omega
      · obtain rfl : k = M.length := by omega
        obtain ⟨av, cv, rfl⟩ := hP.rows.shape
        obtain ⟨aq, cq, rfl⟩ := own_shape hP.side
        have n0 := hP.c0
        have n1 := hP.c1
        have n2 := hP.c2
        have hsz := hB.size
        have hl2 : w.heap.size + 1 < w2.heap.size := by omega
        have m0 := (hB.cell (p := ⟨w.heap.size + 1, 0, none⟩) hl2).trans HE0.out
        have m1 := (hB.cell (p := ⟨w.heap.size + 1, 1, none⟩) hl2).trans HE1.out
        have m2 := (hB.cell (p := ⟨w.heap.size + 1, 2, none⟩) hl2).trans HE2.out
        have m3 := fun o => (hB.frozen (p := ⟨w.heap.size + 1, o, none⟩) hl2).trans (HE3.out o)
        have hlw : w.heap.size + 1 < wr.heap.size := by omega
        have HP := Lib.hid hP
        have HB := Lib.hid (hw2.trans (hB.mono hw2.size))
        clear hP hB
        go_wp2_with fail
        refine bodyPost_ret (v := .agg #[.int .i64 (-X), .slice av (rTo M s M.length).length cv, .slice aq (sTo M Q s M.length).length cq]) (by simp [*, results, Tryd.results50, go_sem]) rfl ?_
        have ht : Tch [w.heap.size + 1] wr (((wr.setCell ⟨w.heap.size + 1, 0, none⟩ (.int .i64 (-X))).setCell ⟨w.heap.size + 1, 1, none⟩ (.slice av (rTo M s M.length).length cv)).setCell ⟨w.heap.size + 1, 2, none⟩ (.slice aq (sTo M Q s M.length).length cq)) := (((Tch.refl _ _).setCell (by simp) _).setCell (by simp) _).setCell (by simp) _
        have := HP.out.outV (w := w) ht (by omega) (by omega) (((HB.out.setCell (by simp) _).setCell (by simp) _).setCell (by simp) _)
        rw [show pvD M s = (-X) from C3.out.symm]
        exact this
end Go.Proofs.YthnefjllijoobaaDoor.PW
