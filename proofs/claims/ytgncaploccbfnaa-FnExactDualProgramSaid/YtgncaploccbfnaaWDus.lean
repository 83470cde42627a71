/-
  DualProgram: what it answers; the model's side.
-/
import Derived.Test.YtgncaploccbfnaaWDum
import Derived.Test.YtgncaploccbfnaaWDuR
import Derived.Test.YtgncaploccbfnaaLKW
import Derived.BigQuiet
namespace Go.Proofs.Ytgncaploccbfnaa.PW
open Go.RowKit Go.Proofs.Ytgncaploccbfnaa
open Go.Proofs.Ytgncaploccbfnaa.PM Go.Proofs.Ytgncaploccbfnaa.PX
attribute [local go_sem] Oper.semAt_some

def duRow (A : List (List Int)) (m i : Nat) : List Int := (List.range m).map fun j => - wE A j i
def duRows (A : List (List Int)) (m k : Nat) : List (List Int) := (List.range k).map (duRow A m)
theorem duRows_length (A : List (List Int)) (m k : Nat) : (duRows A m k).length = k := by simp [duRows]
theorem duRows_snoc (A : List (List Int)) (m k : Nat) : duRows A m (k + 1) = duRows A m k ++ [duRow A m k] := by unfold duRows; rw [List.range_succ, List.map_append]; rfl
theorem duRow_snoc (A : List (List Int)) (m i : Nat) : duRow A (m + 1) i = duRow A m i ++ [- wE A m i] := by unfold duRow; rw [List.range_succ, List.map_append]; rfl
theorem duRow_length (A : List (List Int)) (m i : Nat) : (duRow A m i).length = m := by simp [duRow]
def duOut (D : List (List Int)) (C : List Int) (A : List (List Int)) (B : List Int) : List (List Int) × List Int × List (List Int) × List Int × Int :=
  if isWB D C A B = true then (if linB D = true ∧ 1 ≤ B.length then (tab B.length (fun _ _ => 0), negL B, duRows A B.length C.length, negL C, 0) else ([], [], [], [], 5)) else ([], [], [], [], 1)
theorem du_no {D : List (List Int)} {C : List Int} {A : List (List Int)} {B : List Int} (h : isWB D C A B = false) : duOut D C A B = ([], [], [], [], 1) := by unfold duOut; rw [if_neg (by rw [h]; exact Bool.noConfusion)]
theorem du_five {D : List (List Int)} {C : List Int} {A : List (List Int)} {B : List Int} (h : isWB D C A B = true) (h2 : ¬ (linB D = true ∧ 1 ≤ B.length)) : duOut D C A B = ([], [], [], [], 5) := by unfold duOut; rw [if_pos h, if_neg h2]
theorem du_ok {D : List (List Int)} {C : List Int} {A : List (List Int)} {B : List Int} (h : isWB D C A B = true) (h2 : linB D = true ∧ 1 ≤ B.length) : duOut D C A B = (tab B.length (fun _ _ => 0), negL B, duRows A B.length C.length, negL C, 0) := by unfold duOut; rw [if_pos h, if_pos h2]
/-- What a function leaves that returns a program and a code. -/
def OutWx (w : World) (o : List (List Int) × List Int × List (List Int) × List Int × Int) (e : Ending) (w' : World) : Prop :=
  ∃ p1 q1 p2 q2 p3 q3 p4 q4, e = .returned (.tuple #[.agg #[.slice p1 o.1.length q1, .slice p2 o.2.1.length q2, .slice p3 o.2.2.1.length q3, .slice p4 o.2.2.2.1.length q4], .int .i64 o.2.2.2.2]) ∧
    RngWx w.heap.size w'.heap.size w' (.slice p1 o.1.length q1) (.slice p2 o.2.1.length q2) (.slice p3 o.2.2.1.length q3) (.slice p4 o.2.2.2.1.length q4) o.1 o.2.1 o.2.2.1 o.2.2.2.1 ∧ Below w.heap.size w w'
theorem OutWx.out {w w' : World} {o : List (List Int) × List Int × List (List Int) × List Int × Int} {e : Ending} (h : OutWx w o e w') :
    ∃ p1 q1 p2 q2 p3 q3 p4 q4, e = .returned (.tuple #[.agg #[.slice p1 o.1.length q1, .slice p2 o.2.1.length q2, .slice p3 o.2.2.1.length q3, .slice p4 o.2.2.2.1.length q4], .int .i64 o.2.2.2.2]) ∧
    RngWx w.heap.size w'.heap.size w' (.slice p1 o.1.length q1) (.slice p2 o.2.1.length q2) (.slice p3 o.2.2.1.length q3) (.slice p4 o.2.2.2.1.length q4) o.1 o.2.1 o.2.2.1 o.2.2.2.1 ∧ Below w.heap.size w w' := h
theorem rngW_nil (lo hi : Nat) (w : World) : RngWx lo hi w (.slice none 0 0) (.slice none 0 0) (.slice none 0 0) (.slice none 0 0) [] [] [] [] := by
  have hR : OwnR w (.slice none 0 0) [] [] := ⟨rfl, World.ownsRow_nil _ _ _ _, fun i hi => absurd hi (Nat.not_lt_zero _), fun i j b hi => absurd hi (Nat.not_lt_zero _), fun i b hi => absurd hi (Nat.not_lt_zero _)⟩
  have hI : OwnI w (.slice none 0 0) [] := World.ownsRow_nil _ _ _ _
  have e1 : blks (.slice none 0 0) ++ rblks [] = [] := by simp [blks, rblks, Value.ownBlock]
  have e2 : blks (.slice none 0 0) = [] := by simp [blks, Value.ownBlock]
  exact ⟨([], []), hR, hI, hR, hI, fun k hk => by simp [e1] at hk, fun k hk => by simp [e2] at hk, fun k hk => by simp [e1] at hk, fun k hk => by simp [e2] at hk, fun k hk => by simp [e1] at hk, fun k hk => by simp [e1] at hk, fun k hk => by simp [e1] at hk, fun k hk => by simp [e2] at hk, fun k hk => by simp [e2] at hk, fun k hk => by simp [e1] at hk⟩
theorem outW_err {w w' : World} {c : Int} (h : Below w.heap.size w w') : OutWx w ([], [], [], [], c) (.returned (.tuple #[.agg #[.slice none 0 0, .slice none 0 0, .slice none 0 0, .slice none 0 0], .int .i64 c])) w' :=
  ⟨_, _, _, _, _, _, _, _, rfl, rngW_nil _ _ _, h⟩
/-- The boxes: the program, and the program that is answered. -/
structure Wd (w wr : World) (p0 p1 p2 p3 : Value) : Prop where
  b : Below w.heap.size w wr
  k0 : wr.cell? ⟨w.heap.size, 0, none⟩ = some p0
  k1 : wr.cell? ⟨w.heap.size, 1, none⟩ = some p1
  k2 : wr.cell? ⟨w.heap.size, 2, none⟩ = some p2
  k3 : wr.cell? ⟨w.heap.size, 3, none⟩ = some p3
  r0 : wr.cell? ⟨w.heap.size + 1, 0, none⟩ = some (.slice none 0 0)
  r1 : wr.cell? ⟨w.heap.size + 1, 1, none⟩ = some (.slice none 0 0)
  r2 : wr.cell? ⟨w.heap.size + 1, 2, none⟩ = some (.slice none 0 0)
  r3 : wr.cell? ⟨w.heap.size + 1, 3, none⟩ = some (.slice none 0 0)
  f : ∀ o, wr.frozen? ⟨w.heap.size + 1, o, none⟩ = false
  z : w.heap.size + 1 < wr.heap.size
theorem Wd.next {w wr wq : World} {p0 p1 p2 p3 : Value} (h : Wd w wr p0 p1 p2 p3) (hb : Below wr.heap.size wr wq) : Wd w wq p0 p1 p2 p3 := by
  obtain ⟨hw, k0, k1, k2, k3, r0, r1, r2, r3, f, hz⟩ := h
  exact ⟨hw.trans (hb.mono hw.size), (hb.cell (p := ⟨w.heap.size, 0, none⟩) (by show w.heap.size < _; omega)).trans k0, (hb.cell (p := ⟨w.heap.size, 1, none⟩) (by show w.heap.size < _; omega)).trans k1,
    (hb.cell (p := ⟨w.heap.size, 2, none⟩) (by show w.heap.size < _; omega)).trans k2, (hb.cell (p := ⟨w.heap.size, 3, none⟩) (by show w.heap.size < _; omega)).trans k3,
    (hb.cell (p := ⟨w.heap.size + 1, 0, none⟩) hz).trans r0, (hb.cell (p := ⟨w.heap.size + 1, 1, none⟩) hz).trans r1, (hb.cell (p := ⟨w.heap.size + 1, 2, none⟩) hz).trans r2, (hb.cell (p := ⟨w.heap.size + 1, 3, none⟩) hz).trans r3, fun o => (hb.frozen (p := ⟨w.heap.size + 1, o, none⟩) hz).trans (f o), Nat.lt_of_lt_of_le hz hb.size⟩
theorem wd_new (w : World) (p0 p1 p2 p3 : Value) (T S : TypeId) : Wd w ((w.alloc (.cells #[p0, p1, p2, p3] T)).alloc (.cells #[.slice none 0 0, .slice none 0 0, .slice none 0 0, .slice none 0 0] S)) p0 p1 p2 p3 := by
  refine ⟨((Below.refl _ _).alloc (Nat.le_refl _) _).alloc (by simp) _, by simp, by simp, by simp, by simp, by simp, by simp, by simp, by simp, fun o => by simp, by simp⟩
/-- The program behind the variable is put into the result's box. -/
theorem PrV.result {w wr : World} {X N : Nat} {d c a b : Value} {D : List (List Int)} {C : List Int} {A : List (List Int)} {B : List Int} {us vs : List Value} {p0 p1 p2 p3 : Value} (h : PrV X wr N d c a b D C A B us vs) (hg : Wd w wr p0 p1 p2 p3) (hX : w.heap.size + 1 < X) :
    RngWx w.heap.size ((((wr.setCell ⟨w.heap.size + 1, 0, none⟩ d).setCell ⟨w.heap.size + 1, 1, none⟩ c).setCell ⟨w.heap.size + 1, 2, none⟩ a).setCell ⟨w.heap.size + 1, 3, none⟩ b).heap.size
      ((((wr.setCell ⟨w.heap.size + 1, 0, none⟩ d).setCell ⟨w.heap.size + 1, 1, none⟩ c).setCell ⟨w.heap.size + 1, 2, none⟩ a).setCell ⟨w.heap.size + 1, 3, none⟩ b) d c a b D C A B ∧
    Below w.heap.size w ((((wr.setCell ⟨w.heap.size + 1, 0, none⟩ d).setCell ⟨w.heap.size + 1, 1, none⟩ c).setCell ⟨w.heap.size + 1, 2, none⟩ a).setCell ⟨w.heap.size + 1, 3, none⟩ b) := by
  have q : w.heap.size ≤ w.heap.size + 1 := by omega
  refine ⟨?_, (((hg.b.setCell (p := ⟨w.heap.size + 1, 0, none⟩) q _).setCell (p := ⟨w.heap.size + 1, 1, none⟩) q _).setCell (p := ⟨w.heap.size + 1, 2, none⟩) q _).setCell (p := ⟨w.heap.size + 1, 3, none⟩) q _⟩
  obtain ⟨W5, hW5⟩ : ∃ W5, W5 = (((wr.setCell ⟨w.heap.size + 1, 0, none⟩ d).setCell ⟨w.heap.size + 1, 1, none⟩ c).setCell ⟨w.heap.size + 1, 2, none⟩ a).setCell ⟨w.heap.size + 1, 3, none⟩ b := ⟨_, rfl⟩
  have hk : ∀ x, x ≠ w.heap.size + 1 → W5.heap[x]? = wr.heap[x]? := fun x hx => by
    rw [hW5]
    exact (Below.heap_setCell _ ⟨w.heap.size + 1, 3, none⟩ _ _ hx).trans ((Below.heap_setCell _ ⟨w.heap.size + 1, 2, none⟩ _ _ hx).trans ((Below.heap_setCell _ ⟨w.heap.size + 1, 1, none⟩ _ _ hx).trans (Below.heap_setCell _ ⟨w.heap.size + 1, 0, none⟩ _ _ hx)))
  have hz : W5.heap.size = wr.heap.size := by rw [hW5]; simp
  rw [← hW5]
  have hr := h.rng.same (w2 := W5) (hi' := W5.heap.size) (fun k h1 _ => hk k (by omega)) (by omega)
  exact ⟨_, hr.od, hr.oc, hr.oa, hr.ob, fun k hk' => by have := hr.bd k hk'; omega, fun k hk' => by have := hr.bc k hk'; omega, fun k hk' => by have := hr.ba k hk'; omega, fun k hk' => by have := hr.bb k hk'; omega, hr.dc, hr.da, hr.db, hr.ca, hr.cb, hr.ab⟩

set_option maxRecDepth 100000 in
set_option maxHeartbeats 8000000 in
theorem specDualProgram_any (d c a b : Value) (D : List (List Int)) (C : List Int) (A : List (List Int)) (B : List Int) (w : World) (h1 : PM.Rows w d D) (h2 : Ints w c C) (h3 : PM.Rows w a A) (h4 : Ints w b B) (hs : szWn D C A B ≤ 1048576) :
    Calls Try.prog 49 #[.agg #[d, c, a, b]] w (OutWx w (duOut D C A B)) := by
  have hmx : Try.prog.follows .mixedOrders = true := by kernel_rfl
  have HIS := Lib.hid (fun (w' : World) (h : Below w.heap.size w w') => l09Is_any d c a b D C A B w' (h1.below h) (h2.below h) (h3.below h) (h4.below h) hs)
  have HLI := Lib.hid (fun (hc : isWB D C A B = true) (w' : World) (h : Below w.heap.size w w') => l09Linear_any d c a b D C A B w' (h1.below h) (h2.below h) (h3.below h) (h4.below h) hc)
  have H2 := Lib.hid h2
  have H3 := Lib.hid h3
  have H4 := Lib.hid h4
  obtain ⟨x1, y1, rfl, _⟩ := h1
  obtain ⟨x2, y2, rfl, _⟩ := h2
  obtain ⟨x3, y3, rfl, _⟩ := h3
  obtain ⟨x4, y4, rfl, _⟩ := h4
  have HBL := Lib.hid (wints_len H4.out)
  clear hs
  obtain ⟨W0, hW0⟩ : ∃ W0, W0 = (w.alloc (.cells #[.slice x1 D.length y1, .slice x2 C.length y2, .slice x3 A.length y3, .slice x4 B.length y4] 54)).alloc (.cells #[.slice none 0 0, .slice none 0 0, .slice none 0 0, .slice none 0 0] 54) := ⟨_, rfl⟩
  have hg0 : Wd w W0 (.slice x1 D.length y1) (.slice x2 C.length y2) (.slice x3 A.length y3) (.slice x4 B.length y4) := by rw [hW0]; exact wd_new _ _ _ _ _ _ _
  have HG0 := Lib.hid hg0
  have HW0 := Lib.hid hW0
  clear hg0 hW0
  cases hc : isWB D C A B
  · rw [du_no hc]
    rw [hc] at HIS
    clear hc HLI
    have k0 := HG0.out.k0
    have k1 := HG0.out.k1
    have k2 := HG0.out.k2
    have k3 := HG0.out.k3
    go_enter Try.func49, Try.ntmps49
    go_wp2_with fail
    rw [← HW0.out]
    refine (HIS.out _ HG0.out.b).mono ?_; rintro e w1 ⟨rfl, hb1⟩
    obtain ⟨hw1, k0, k1, k2, k3, r0, r1, r2, r3, f, hz1⟩ := HG0.out.next hb1
    have f0 := f 0
    have f1 := f 1
    have f2 := f 2
    have f3 := f 3
    clear hb1
    go_wp2_with fail
    refine bodyPost_ret (v := .tuple #[.agg #[.slice none 0 0, .slice none 0 0, .slice none 0 0, .slice none 0 0], .int .i64 1]) (by simp [*, results, Try.results49, go_sem]) rfl ?_
    exact outW_err (by (repeat' (first | (with_reducible exact Below.refl _ _) | (with_reducible assumption) | (with_reducible refine Below.alloc ?_ ?_ _) | (with_reducible refine Below.drew ?_) | (with_reducible refine below_drewN ?_ _) | (with_reducible refine Below.setCell ?_ ?_ _) | (with_reducible refine Below.trans ?_ (Below.mono (by with_reducible assumption) ?_)) | (with_reducible exact Below.size (by with_reducible assumption)) | go_size)))
  rw [hc] at HIS
  have HLI := Lib.hid (HLI.out hc)
  cases hl : linB D
  · rw [du_five hc (by rw [hl]; exact fun h => Bool.noConfusion h.1)]
    rw [hl] at HLI
    clear hc hl
    go_enter Try.func49, Try.ntmps49
    go_wp2_with fail
    rw [← HW0.out]
    refine (HIS.out _ HG0.out.b).mono ?_; rintro e w1 ⟨rfl, hb1⟩
    have hg1 := HG0.out.next hb1
    have HG1 := Lib.hid hg1
    obtain ⟨hw1, k0, k1, k2, k3, _, _, _, _, _, _⟩ := hg1
    clear hb1
    go_wp2_with fail
    refine (HLI.out _ HG1.out.b).mono ?_; rintro e w2 ⟨rfl, hb2⟩
    obtain ⟨hw2, k0, k1, k2, k3, r0, r1, r2, r3, f, hz2⟩ := HG1.out.next hb2
    have f0 := f 0
    have f1 := f 1
    have f2 := f 2
    have f3 := f 3
    clear hb2 hw1
    go_wp2_with fail
    refine bodyPost_ret (v := .tuple #[.agg #[.slice none 0 0, .slice none 0 0, .slice none 0 0, .slice none 0 0], .int .i64 5]) (by simp [*, results, Try.results49, go_sem]) rfl ?_
    exact outW_err (by (repeat' (first | (with_reducible exact Below.refl _ _) | (with_reducible assumption) | (with_reducible refine Below.alloc ?_ ?_ _) | (with_reducible refine Below.drew ?_) | (with_reducible refine below_drewN ?_ _) | (with_reducible refine Below.setCell ?_ ?_ _) | (with_reducible refine Below.trans ?_ (Below.mono (by with_reducible assumption) ?_)) | (with_reducible exact Below.size (by with_reducible assumption)) | go_size)))
  rw [hl] at HLI
  by_cases hm : 1 ≤ B.length
  case neg =>
    rw [du_five hc (fun h => hm h.2)]
    have hb0 : ((B.length : Int) == 0) = true := by simp; exact List.eq_nil_of_length_eq_zero (by omega)
    have hbl := HBL.out
    clear hc hl hm
    generalize B.length = m at *
    go_enter Try.func49, Try.ntmps49
    go_wp2_with fail
    rw [← HW0.out]
    refine (HIS.out _ HG0.out.b).mono ?_; rintro e w1 ⟨rfl, hb1⟩
    have hg1 := HG0.out.next hb1
    have HG1 := Lib.hid hg1
    obtain ⟨hw1, k0, k1, k2, k3, _, _, _, _, _, _⟩ := hg1
    clear hb1
    go_wp2_with fail
    refine (HLI.out _ HG1.out.b).mono ?_; rintro e w2 ⟨rfl, hb2⟩
    obtain ⟨hw2, k0, k1, k2, k3, r0, r1, r2, r3, f, hz2⟩ := HG1.out.next hb2
    have f0 := f 0
    have f1 := f 1
    have f2 := f 2
    have f3 := f 3
    clear hb2 hw1
    go_wp2_with fail
    refine bodyPost_ret (v := .tuple #[.agg #[.slice none 0 0, .slice none 0 0, .slice none 0 0, .slice none 0 0], .int .i64 5]) (by simp [*, results, Try.results49, go_sem]) rfl ?_
    exact outW_err (by (repeat' (first | (with_reducible exact Below.refl _ _) | (with_reducible assumption) | (with_reducible refine Below.alloc ?_ ?_ _) | (with_reducible refine Below.drew ?_) | (with_reducible refine below_drewN ?_ _) | (with_reducible refine Below.setCell ?_ ?_ _) | (with_reducible refine Below.trans ?_ (Below.mono (by with_reducible assumption) ?_)) | (with_reducible exact Below.size (by with_reducible assumption)) | go_size)))
  rw [du_ok hc ⟨hl, hm⟩]
  have hW := (isWB_is D C A B).1 hc
  obtain ⟨bA, oA, cA, e3, hbA, hTA⟩ := rowsW_at (l := C.length) H3.out (by rw [hW.a]; exact hm) hW.n1 (fun i hi => hW.ar i (by rw [← hW.a]; exact hi))
  simp only [Value.slice.injEq, true_and] at e3
  obtain ⟨rfl, rfl⟩ := e3
  have hBL := hW.a
  rw [hBL] at hTA
  have HMB := Lib.hid (fun (w' : World) (h : Below w.heap.size w w') => l09Minus_any _ B w' (H4.out.below h) hm (by have := hW.n5; omega) hW.b)
  have HMC := Lib.hid (fun (w' : World) (h : Below w.heap.size w w') => l09Minus_any _ C w' (H2.out.below h) hW.n1 (by have := hW.n5; omega) hW.c)
  have HZE := Lib.hid (fun (w' : World) => l09Zeros_any B.length w' hm (by have := hW.n5; omega))
  have HAK := Lib.hid hW.ak
  have HTA := Lib.hid hTA
  have hn1 := hW.n1
  have hn5 := hW.n5
  clear H2 H3 H4 HBL hc hl hW hTA
  obtain ⟨n, hn⟩ : ∃ n, n = C.length := ⟨_, rfl⟩
  obtain ⟨m, hmm⟩ : ∃ m, m = B.length := ⟨_, rfl⟩
  have HNB : Hid ((negL B).length = m) := by show _ = _; rw [hmm]; exact negL_length B
  have HNC : Hid ((negL C).length = n) := by show _ = _; rw [hn]; exact negL_length C
  rw [hBL] at HIS HLI HG0 HW0 ⊢
  rw [← hn, ← hmm] at HAK HTA hn5 HIS HLI HG0 HW0 ⊢
  rw [← hn] at HMC hn1
  rw [← hmm] at HMB HZE hm
  generalize negL B = NB at *
  generalize negL C = NC at *
  clear hn hmm hBL
  have HTL : Hid ((tab m (fun _ _ => (0 : Int))).length = m) := tab_length _ _
  generalize tab m (fun _ _ => (0 : Int)) = T at *
  have hmb : ((m : Int) == 0) = false := by simp; omega
  obtain ⟨i0, hi', hzz0, hzz1, hzz2⟩ := info_parts info_ints
  obtain ⟨j0, hj', hyy0, hyy1, hyy2⟩ := info_parts info_int
  go_enter Try.func49, Try.ntmps49
  go_wp2_with fail
  rw [← HW0.out]
  refine (HIS.out _ HG0.out.b).mono ?_; rintro e w1 ⟨rfl, hb1⟩
  have hg1 := HG0.out.next hb1
  have HG1 := Lib.hid hg1
  have k0 := hg1.k0
  have k1 := hg1.k1
  have k2 := hg1.k2
  have k3 := hg1.k3
  clear hb1 hg1
  go_wp2_with fail
  refine (HLI.out _ HG1.out.b).mono ?_; rintro e w2 ⟨rfl, hb2⟩
  have hg2 := HG1.out.next hb2
  have HG2 := Lib.hid hg2
  clear k0 k1 k2 k3
  have k0 := hg2.k0
  have k1 := hg2.k1
  have k2 := hg2.k2
  have k3 := hg2.k3
  have hz2 := hg2.z
  clear hb2 hg2 HG0 HG1 HIS HLI
  go_wp2_with fail
  obtain ⟨W, rfl⟩ : ∃ W, W = w2 := ⟨_, rfl⟩
  rename_i K0 hK0
  refine (wpIn_wide (n := 8)).1 ?_
  have hzW : w.heap.size < W.heap.size := by omega
  refine PR.wpIn_region_inv hmx (by kernel_rfl) (fun listed ac w' =>
      ∃ (b0 b1 b2 b3 b4 b5 b6 b7 b8 b9 b10 b11 b12 b13 : Bool) (gd : Nat) (qd : Nat) (gc : Nat) (qc : Nat) (ga : Nat) (gb : Nat) (qb : Nat) (g : Nat) (us : List Value), ((b1 = true → b0 = true) ∧ (b2 = true → b1 = true) ∧ (b3 = true → b2 = true) ∧ (b5 = true → b4 = true) ∧ (b6 = true → b5 = true) ∧ (b9 = true → b8 = true) ∧ (b10 = true → b9 = true) ∧ (b11 = true → b3 = true ∧ b6 = true ∧ b7 = true ∧ b10 = true) ∧ (b13 = true → b12 = true ∧ b11 = true)) ∧ listed = #[b0, b1, b2, b3, b4, b5, b6, b7, b8, b9, b10, b11, b12, b13] ∧
        ac = { tmps := #[.agg #[.slice x1 D.length y1, .slice x2 n y2, .slice (some ⟨bA, oA, none⟩) m y3, .slice x4 m y4], .pointer (some ⟨w.heap.size, 0, none⟩), .pointer (some ⟨w.heap.size + 1, 0, none⟩), .int .i64 0, cond b12 (.pointer (some ⟨g, 0, none⟩)) undef, undef, undef, undef, .bool false, .agg #[.slice x1 D.length y1, .slice x2 n y2, .slice (some ⟨bA, oA, none⟩) m y3, .slice x4 m y4], .bool true, .bool false, undef, .bool false, .agg #[.slice x1 D.length y1, .slice x2 n y2, .slice (some ⟨bA, oA, none⟩) m y3, .slice x4 m y4], .bool true, .bool false, .bool false, .pointer (some ⟨w.heap.size, 3, none⟩), .slice x4 m y4, .int .i64 m, .bool false, .bool false, undef, cond b0 (.pointer (some ⟨w.heap.size, 3, none⟩)) undef, cond b1 (.slice x4 m y4) undef, cond b2 (.int .i64 m) undef, cond b3 (.slice (some ⟨gd, 0, none⟩) m qd) undef, cond b4 (.pointer (some ⟨w.heap.size, 3, none⟩)) undef, cond b5 (.slice x4 m y4) undef, cond b6 (.slice (some ⟨gc, 0, none⟩) m qc) undef, cond b7 (.slice (some ⟨ga, 0, none⟩) 0 0) undef, cond b8 (.pointer (some ⟨w.heap.size, 1, none⟩)) undef, cond b9 (.slice x2 n y2) undef, cond b10 (.slice (some ⟨gb, 0, none⟩) n qb) undef, cond b11 (.agg #[.slice (some ⟨gd, 0, none⟩) m qd, .slice (some ⟨gc, 0, none⟩) m qc, .slice (some ⟨ga, 0, none⟩) 0 0, .slice (some ⟨gb, 0, none⟩) n qb]) undef, undef, undef, undef, undef, undef, undef, undef, undef, undef, undef, undef, undef, undef, undef, undef, undef, undef, undef, undef, undef, undef, undef, undef, undef, undef, undef, undef, undef, undef, undef, undef, undef, undef, undef], defers := [] } ∧ DuR W w' (.slice (some ⟨gd, 0, none⟩) m qd) (.slice (some ⟨gc, 0, none⟩) m qc) (.slice (some ⟨ga, 0, none⟩) 0 0) (.slice (some ⟨gb, 0, none⟩) n qb) T NB NC us g b3 b6 b7 b10 b12 b13) ?_ ?_ ?_ ?_
  · rintro listed ac w' ⟨b0, b1, b2, b3, b4, b5, b6, b7, b8, b9, b10, b11, b12, b13, gd, qd, gc, qc, ga, gb, qb, g, us, _, rfl, _⟩
    rfl
  · rintro listed ac w' ⟨b0, b1, b2, b3, b4, b5, b6, b7, b8, b9, b10, b11, b12, b13, gd, qd, gc, qc, ga, gb, qb, g, us, _, rfl, rfl, hR⟩ hall
    have h0 := hall 0 (by simp)
    have h1 := hall 1 (by simp)
    have h2 := hall 2 (by simp)
    have h3 := hall 3 (by simp)
    have h4 := hall 4 (by simp)
    have h5 := hall 5 (by simp)
    have h6 := hall 6 (by simp)
    have h7 := hall 7 (by simp)
    have h8 := hall 8 (by simp)
    have h9 := hall 9 (by simp)
    have h10 := hall 10 (by simp)
    have h11 := hall 11 (by simp)
    have h12 := hall 12 (by simp)
    have h13 := hall 13 (by simp)
    simp at h0 h1 h2 h3 h4 h5 h6 h7 h8 h9 h10 h11 h12 h13
    subst h0 h1 h2 h3 h4 h5 h6 h7 h8 h9 h10 h11 h12 h13
    clear hall
    refine hK0 _ _ ?_
    simp only [cond_true]
    have HP := Lib.hid hR.prV
    have HLOW := Lib.hid hR.low
    clear hR
    obtain ⟨W5, rfl⟩ : ∃ x, x = w' := ⟨_, rfl⟩
    obtain ⟨X, hX⟩ : ∃ X, X = W.heap.size := ⟨_, rfl⟩
    rw [← hX] at HP HLOW
    have HX := Lib.hid hX
    have hXw : w.heap.size + 1 < X := by omega
    have hk3' : W5.cell? ⟨w.heap.size, 3, none⟩ = some (.slice x4 m y4) := (HLOW.out.cell (p := ⟨w.heap.size, 3, none⟩) (by show w.heap.size < _; omega)).trans k3
    have hk1' : W5.cell? ⟨w.heap.size, 1, none⟩ = some (.slice x2 n y2) := (HLOW.out.cell (p := ⟨w.heap.size, 1, none⟩) (by show w.heap.size < _; omega)).trans k1
    clear k0 k1 k2 k3 hX hz2 hzW
    go_wp2_with fail
    go_loopw [5, 6, 7] (fun i _ _ wr => ∃ (k : Nat) (a : Value) (vs : List Value), k ≤ n ∧ i = .int .i64 k ∧ PrV X wr g (.slice (some ⟨gd, 0, none⟩) m qd) (.slice (some ⟨gc, 0, none⟩) m qc) a (.slice (some ⟨gb, 0, none⟩) n qb) T NB (duRows A m k) NC us vs ∧ Below X W wr) (fun i _ _ _ => n - (intOf i).toNat)
    case atStart => exact ⟨0, _, [], Nat.zero_le _, rfl, HP.out, HLOW.out⟩
    case round =>
      obtain ⟨k, a, vs, hk, rfl, hP, hB⟩ := hrel
      obtain ⟨Wr, rfl⟩ : ∃ x, x = wr := ⟨_, rfl⟩
      have hB' := hB
      rw [HX.out] at hB'
      have hg6 := HG2.out.next hB'
      have HG6 := Lib.hid hg6
      have kb1 := hg6.k1
      clear hk1' hk3' hB'
      by_cases hlt : k < n
      · have HPV := Lib.hid hP
        have HB := Lib.hid hB
        have hkn : (k : Int) < n := by omega
        have hXr : X ≤ Wr.heap.size := Nat.le_trans (by have := HX.out; omega) hB.size
        have HXR := Lib.hid hXr
        clear hP hB hg6 hXr
        go_wp2_with fail
        go_loopw [6, 7] (fun v c wi => ∃ j : Nat, j ≤ m ∧ c = .int .i64 j ∧ FreshI Wr.heap.size wi v (duRow A j k) ∧ Below Wr.heap.size Wr wi) (fun _ c _ => m - (intOf c).toNat)
        case atStart => exact ⟨0, Nat.zero_le _, rfl, freshI_nil Wr, (Below.refl _ _).alloc (Nat.le_refl _) _⟩
        case round =>
          obtain ⟨j, hjm, rfl, hF, hBi⟩ := hrel
          have hg7 := HG6.out.next hBi
          have kk3 := hg7.k3
          clear kb1
          by_cases hltj : j < m
          · obtain ⟨r, o, dd, hr, s1, -, s2⟩ := HTA.out j hltj
            have s2 := s2 k hlt
            have kk2 := hg7.k2
            have s1 := (hg7.b.cell (p := ⟨bA, oA + j, none⟩) hbA).trans s1
            have s2 := (hg7.b.cell (p := ⟨r, o + k, none⟩) hr).trans s2
            have hx := HAK.out j hltj k hlt
            have HSN := Lib.hid (duRow_snoc A j k)
            have HL := Lib.hid (duRow_length A j k)
            have how := hF.owns
            rw [HL.out] at how
            have HOW := Lib.hid how
            have HF := Lib.hid hF
            have HBI := Lib.hid hBi
            have hjl : (j : Int) < m := by omega
            clear hF hBi hg7 how hr
            generalize wE A j k = x at *
            go_wp2_with (at_builtin; refine wpList_append_lies _ rfl _ _ 23 rfl 0 2 j0 (.int .i64 0) 1 8 Try.underlying23 hj' hyy0 hyy1 hyy2 rfl (by decide) u6 j _ rfl ((HOW.out).alloc _) _ 1 _ [.int .i64 (- x)] rfl rfl (cell_one_new _ _ _) (by simp [Value.oneCell']) (by decide) (by unfold maxLen; omega) (by omega) (Nat.zero_le _) _ rfl ?_; intro gg cap w5 hown hgrow hat hgl)
            have hpu := HF.out.push HBI.out.size HL.out.symm hown hat hgl
            have hgr := HF.out.grow HBI.out HBI.out.size hgrow
            rw [← HSN.out] at hpu
            have HPU := Lib.hid hpu
            have HGR := Lib.hid hgr
            clear hpu hgr hown hgrow hat hgl
            go_wp2_with fail
            go_roundw
            case rel => exact ⟨j + 1, by omega, by go_num, HPU.out, HGR.out⟩
            case measure => simp [intOf]; omega
          · obtain rfl : j = m := by omega
            obtain ⟨gr, cr, hvv, -, -, -⟩ := id hF
            rw [duRow_length] at hvv
            subst hvv
            have HROW := Lib.hid hF
            have HWI := Lib.hid hBi
            have n0 := (hBi.cell (p := ⟨g, 2, none⟩) HPV.out.lt).trans HPV.out.k2
            have HGS := Lib.hid (duRows_snoc A j k)
            have HGL := Lib.hid (duRows_length A j k)
            obtain ⟨R, hR⟩ : ∃ R, R = duRow A j k := ⟨_, rfl⟩
            rw [← hR] at HROW HGS
            have hown0 : ∀ w', Below Wr.heap.size Wr w' → w'.ownsRow 0 23 1 a k vs := fun w' h => by
              have := (HPV.out.below h).rng.oa.top
              rwa [HGL.out] at this
            have HOW := Lib.hid hown0
            clear hF hBi hR hg7 hown0
            go_wp2_with (at_builtin; refine wpList_append_lies _ rfl _ _ 22 rfl 0 23 i0 (.slice none 0 0) 1 24 Try.underlying22 hi' hzz0 hzz1 hzz2 rfl (by decide) a k vs rfl (HOW.out _ (HWI.out.alloc HWI.out.size _)) _ 1 _ [.slice (some ⟨gr, 0, none⟩) j cr] rfl rfl (cell_one_new _ _ _) (by simp [Value.oneCell']) (by decide) (by unfold maxLen; omega) (by omega) (Nat.zero_le _) _ rfl ?_; intro gg cap w4 hown hgrow hat hgl; have hb3 := HWI.out.alloc HWI.out.size (.cells #[.slice (some ⟨gr, 0, none⟩) j cr] 23); obtain ⟨-, fc, ff⟩ := HPV.out.far hb3 hgrow HPV.out.aN; have e0 := (fc 2).trans HPV.out.k2; have f0 := ff 2; clear fc ff)
            have hP5 := HPV.out.rowA hb3 (HROW.out.below ((Below.refl _ _).alloc (Nat.le_refl _) _)) (Nat.le_refl _) HGL.out hown hgrow hat hgl
            have hlow := pgG_low (o := 2) (y := .slice (some ⟨gg, 0, none⟩) (k + 1) cap) HB.out HPV.out.BN HPV.out.lt hb3 hgrow (fun b hb => (HPV.out.rng.ba b (List.mem_append.2 (.inl (mem_blks'.2 hb)))).1)
            rw [← HGS.out] at hP5
            have HP5 := Lib.hid hP5
            have HL5 := Lib.hid hlow
            clear hP5 hlow hown hgrow hat hgl hb3
            go_wp2_with fail
            go_roundw
            case rel => exact ⟨k + 1, _, _, by omega, by go_num, HP5.out, HL5.out⟩
            case measure => simp [intOf]; omega
      · obtain rfl : k = n := by omega
        have q0 := hP.k0
        have q1 := hP.k1
        have q2 := hP.k2
        have q3 := hP.k3
        have z0 := hg6.r0
        have z1 := hg6.r1
        have z2 := hg6.r2
        have z3 := hg6.r3
        have f0 := hg6.f 0
        have f1 := hg6.f 1
        have f2 := hg6.f 2
        have f3 := hg6.f 3
        have hgz := hP.lt
        have hwz := hg6.z
        have hne : g ≠ w.heap.size + 1 := by have := hP.BN; omega
        obtain ⟨pa, qa, rfl⟩ : ∃ b c, a = .slice b k c := by
          rcases hP.rng.oa.top.2 with ⟨rfl, h⟩ | ⟨g', cap, cur, rfl, -⟩
          · rw [duRows_length] at h
            omega
          · exact ⟨_, cap, by rw [duRows_length]⟩
        have HRES := Lib.hid (hP.result hg6 hXw)
        have HTLL := HTL
        clear hP hB hg6
        go_wp2_with fail
        refine bodyPost_ret (v := .tuple #[.agg #[.slice (some ⟨gd, 0, none⟩) m qd, .slice (some ⟨gc, 0, none⟩) m qc, .slice pa k qa, .slice (some ⟨gb, 0, none⟩) k qb], .int .i64 0]) (by simp [*, results, Try.results49, go_sem]) rfl ?_
        have hres := HRES.out
        unfold OutWx
        dsimp only
        rw [HTLL.out, HNB.out, HNC.out, duRows_length]
        exact ⟨_, _, _, _, _, _, _, _, rfl, hres.1, hres.2⟩
  · exact ⟨false, false, false, false, false, false, false, false, false, false, false, false, false, false, 0, 0, 0, 0, 0, 0, 0, 0, [], by simp, rfl, rfl, (DuR.start0 W _ _ _ _ _ _ _ _ _).next (Below.refl _ _).drew⟩
  · rintro listed ac w' i oi ⟨b0, b1, b2, b3, b4, b5, b6, b7, b8, b9, b10, b11, b12, b13, gd, qd, gc, qc, ga, gb, qb, g, us, ⟨e1, e2, e3, e5, e6, e9, e10, e11, e13⟩, rfl, rfl, hR⟩ ho hun hdep
    have hi : i < 14 := by simpa using (Array.getElem?_eq_some_iff.1 ho).1
    obtain rfl | rfl | rfl | rfl | rfl | rfl | rfl | rfl | rfl | rfl | rfl | rfl | rfl | rfl : i = 0 ∨ i = 1 ∨ i = 2 ∨ i = 3 ∨ i = 4 ∨ i = 5 ∨ i = 6 ∨ i = 7 ∨ i = 8 ∨ i = 9 ∨ i = 10 ∨ i = 11 ∨ i = 12 ∨ i = 13 := by omega
    · -- 0
      simp only [List.getElem?_toArray, List.getElem?_cons_zero, Option.some.injEq] at ho
      subst ho
      have hbi : b0 = false := by simpa using hun
      subst hbi
      obtain rfl : b1 = false := Bool.eq_false_iff.2 (fun h => Bool.noConfusion (e1 h))
      obtain rfl : b2 = false := Bool.eq_false_iff.2 (fun h => Bool.noConfusion (e2 h))
      obtain rfl : b3 = false := Bool.eq_false_iff.2 (fun h => Bool.noConfusion (e3 h))
      obtain rfl : b11 = false := Bool.eq_false_iff.2 (fun h => Bool.noConfusion (e11 h).1)
      obtain rfl : b13 = false := Bool.eq_false_iff.2 (fun h => Bool.noConfusion (e13 h).2)
      refine wpOpIn_step rfl (fun K hK => ?_)
      clear hun hdep hi
      go_simp
      refine hK _ _ ⟨true, false, false, false, b4, b5, b6, b7, b8, b9, b10, false, b12, false, gd, qd, gc, qc, ga, gb, qb, g, us, ⟨fun h => Bool.noConfusion h, fun h => Bool.noConfusion h, fun h => Bool.noConfusion h, e5, e6, e9, e10, fun h => Bool.noConfusion h, fun h => Bool.noConfusion h⟩, rfl, rfl, hR⟩
    · -- 1
      simp only [List.getElem?_toArray, List.getElem?_cons_succ, List.getElem?_cons_zero, Option.some.injEq] at ho
      subst ho
      have hbi : b1 = false := by simpa using hun
      subst hbi
      have hd0 : b0 = true := by have := hdep ⟨0, .data⟩ (by simp) rfl; simpa using this
      subst hd0
      obtain rfl : b2 = false := Bool.eq_false_iff.2 (fun h => Bool.noConfusion (e2 h))
      obtain rfl : b3 = false := Bool.eq_false_iff.2 (fun h => Bool.noConfusion (e3 h))
      obtain rfl : b11 = false := Bool.eq_false_iff.2 (fun h => Bool.noConfusion (e11 h).1)
      obtain rfl : b13 = false := Bool.eq_false_iff.2 (fun h => Bool.noConfusion (e13 h).2)
      refine wpOpIn_step rfl (fun K hK => ?_)
      clear hun hdep hi
      have t0 := (hR.low.cell (p := ⟨w.heap.size, 3, none⟩) hzW).trans k3
      go_simp
      refine hK _ _ ⟨true, true, false, false, b4, b5, b6, b7, b8, b9, b10, false, b12, false, gd, qd, gc, qc, ga, gb, qb, g, us, ⟨fun _ => rfl, fun h => Bool.noConfusion h, fun h => Bool.noConfusion h, e5, e6, e9, e10, fun h => Bool.noConfusion h, fun h => Bool.noConfusion h⟩, rfl, rfl, hR⟩
    · -- 2
      simp only [List.getElem?_toArray, List.getElem?_cons_succ, List.getElem?_cons_zero, Option.some.injEq] at ho
      subst ho
      have hbi : b2 = false := by simpa using hun
      subst hbi
      have hd1 : b1 = true := by have := hdep ⟨1, .data⟩ (by simp) rfl; simpa using this
      have hd0 : b0 = true := (e1 hd1)
      subst hd0 hd1
      obtain rfl : b3 = false := Bool.eq_false_iff.2 (fun h => Bool.noConfusion (e3 h))
      obtain rfl : b11 = false := Bool.eq_false_iff.2 (fun h => Bool.noConfusion (e11 h).1)
      obtain rfl : b13 = false := Bool.eq_false_iff.2 (fun h => Bool.noConfusion (e13 h).2)
      refine wpOpIn_step rfl (fun K hK => ?_)
      clear hun hdep hi
      go_simp
      refine hK _ _ ⟨true, true, true, false, b4, b5, b6, b7, b8, b9, b10, false, b12, false, gd, qd, gc, qc, ga, gb, qb, g, us, ⟨fun _ => rfl, fun _ => rfl, fun h => Bool.noConfusion h, e5, e6, e9, e10, fun h => Bool.noConfusion h, fun h => Bool.noConfusion h⟩, rfl, rfl, hR⟩
    · -- 3
      simp only [List.getElem?_toArray, List.getElem?_cons_succ, List.getElem?_cons_zero, Option.some.injEq] at ho
      subst ho
      have hbi : b3 = false := by simpa using hun
      subst hbi
      have hd2 : b2 = true := by have := hdep ⟨2, .data⟩ (by simp) rfl; simpa using this
      have hd1 : b1 = true := (e2 hd2)
      have hd0 : b0 = true := (e1 hd1)
      subst hd0 hd1 hd2
      obtain rfl : b11 = false := Bool.eq_false_iff.2 (fun h => Bool.noConfusion (e11 h).1)
      obtain rfl : b13 = false := Bool.eq_false_iff.2 (fun h => Bool.noConfusion (e13 h).2)
      refine wpOpIn_step rfl (fun K hK => ?_)
      clear hun hdep hi
      go_simp
      refine ⟨trivial, (callsIn_wide.2 (HZE.out w')).mono ?_⟩
      rintro e w'' ⟨yg, yc, yus, rfl, hF, hb'⟩
      refine hK _ _ ⟨true, true, true, true, b4, b5, b6, b7, b8, b9, b10, false, b12, false, yg, yc, gc, qc, ga, gb, qb, g, yus, ⟨fun _ => rfl, fun _ => rfl, fun _ => rfl, e5, e6, e9, e10, fun h => Bool.noConfusion h, fun h => Bool.noConfusion h⟩, rfl, rfl, hR.callD hF.ownRs hb'⟩
    · -- 4
      simp only [List.getElem?_toArray, List.getElem?_cons_succ, List.getElem?_cons_zero, Option.some.injEq] at ho
      subst ho
      have hbi : b4 = false := by simpa using hun
      subst hbi
      obtain rfl : b5 = false := Bool.eq_false_iff.2 (fun h => Bool.noConfusion (e5 h))
      obtain rfl : b6 = false := Bool.eq_false_iff.2 (fun h => Bool.noConfusion (e6 h))
      obtain rfl : b11 = false := Bool.eq_false_iff.2 (fun h => Bool.noConfusion (e11 h).2.1)
      obtain rfl : b13 = false := Bool.eq_false_iff.2 (fun h => Bool.noConfusion (e13 h).2)
      refine wpOpIn_step rfl (fun K hK => ?_)
      clear hun hdep hi
      go_simp
      refine hK _ _ ⟨b0, b1, b2, b3, true, false, false, b7, b8, b9, b10, false, b12, false, gd, qd, gc, qc, ga, gb, qb, g, us, ⟨e1, e2, e3, fun h => Bool.noConfusion h, fun h => Bool.noConfusion h, e9, e10, fun h => Bool.noConfusion h, fun h => Bool.noConfusion h⟩, rfl, rfl, hR⟩
    · -- 5
      simp only [List.getElem?_toArray, List.getElem?_cons_succ, List.getElem?_cons_zero, Option.some.injEq] at ho
      subst ho
      have hbi : b5 = false := by simpa using hun
      subst hbi
      have hd4 : b4 = true := by have := hdep ⟨4, .data⟩ (by simp) rfl; simpa using this
      subst hd4
      obtain rfl : b6 = false := Bool.eq_false_iff.2 (fun h => Bool.noConfusion (e6 h))
      obtain rfl : b11 = false := Bool.eq_false_iff.2 (fun h => Bool.noConfusion (e11 h).2.1)
      obtain rfl : b13 = false := Bool.eq_false_iff.2 (fun h => Bool.noConfusion (e13 h).2)
      refine wpOpIn_step rfl (fun K hK => ?_)
      clear hun hdep hi
      have t0 := (hR.low.cell (p := ⟨w.heap.size, 3, none⟩) hzW).trans k3
      go_simp
      refine hK _ _ ⟨b0, b1, b2, b3, true, true, false, b7, b8, b9, b10, false, b12, false, gd, qd, gc, qc, ga, gb, qb, g, us, ⟨e1, e2, e3, fun _ => rfl, fun h => Bool.noConfusion h, e9, e10, fun h => Bool.noConfusion h, fun h => Bool.noConfusion h⟩, rfl, rfl, hR⟩
    · -- 6
      simp only [List.getElem?_toArray, List.getElem?_cons_succ, List.getElem?_cons_zero, Option.some.injEq] at ho
      subst ho
      have hbi : b6 = false := by simpa using hun
      subst hbi
      have hd5 : b5 = true := by have := hdep ⟨5, .data⟩ (by simp) rfl; simpa using this
      have hd4 : b4 = true := (e5 hd5)
      subst hd4 hd5
      obtain rfl : b11 = false := Bool.eq_false_iff.2 (fun h => Bool.noConfusion (e11 h).2.1)
      obtain rfl : b13 = false := Bool.eq_false_iff.2 (fun h => Bool.noConfusion (e13 h).2)
      refine wpOpIn_step rfl (fun K hK => ?_)
      clear hun hdep hi
      go_simp
      refine ⟨trivial, (callsIn_wide.2 (HMB.out w' (HG2.out.b.trans (hR.low.mono HG2.out.b.size)))).mono ?_⟩
      rintro e w'' ⟨yg, yc, rfl, hF, hb'⟩
      refine hK _ _ ⟨b0, b1, b2, b3, true, true, true, b7, b8, b9, b10, false, b12, false, gd, qd, yg, yc, ga, gb, qb, g, us, ⟨e1, e2, e3, fun _ => rfl, fun _ => rfl, e9, e10, fun h => Bool.noConfusion h, fun h => Bool.noConfusion h⟩, rfl, rfl, hR.callC hF hb'⟩
    · -- 7
      simp only [List.getElem?_toArray, List.getElem?_cons_succ, List.getElem?_cons_zero, Option.some.injEq] at ho
      subst ho
      have hbi : b7 = false := by simpa using hun
      subst hbi
      obtain rfl : b11 = false := Bool.eq_false_iff.2 (fun h => Bool.noConfusion (e11 h).2.2.1)
      obtain rfl : b13 = false := Bool.eq_false_iff.2 (fun h => Bool.noConfusion (e13 h).2)
      refine wpOpIn_step rfl (fun K hK => ?_)
      clear hun hdep hi
      go_simp
      refine hK _ _ ⟨b0, b1, b2, b3, b4, b5, b6, true, b8, b9, b10, false, b12, false, gd, qd, gc, qc, w'.heap.size, gb, qb, g, us, ⟨e1, e2, e3, e5, e6, e9, e10, fun h => Bool.noConfusion h, fun h => Bool.noConfusion h⟩, rfl, rfl, hR.emptyA⟩
    · -- 8
      simp only [List.getElem?_toArray, List.getElem?_cons_succ, List.getElem?_cons_zero, Option.some.injEq] at ho
      subst ho
      have hbi : b8 = false := by simpa using hun
      subst hbi
      obtain rfl : b9 = false := Bool.eq_false_iff.2 (fun h => Bool.noConfusion (e9 h))
      obtain rfl : b10 = false := Bool.eq_false_iff.2 (fun h => Bool.noConfusion (e10 h))
      obtain rfl : b11 = false := Bool.eq_false_iff.2 (fun h => Bool.noConfusion (e11 h).2.2.2)
      obtain rfl : b13 = false := Bool.eq_false_iff.2 (fun h => Bool.noConfusion (e13 h).2)
      refine wpOpIn_step rfl (fun K hK => ?_)
      clear hun hdep hi
      go_simp
      refine hK _ _ ⟨b0, b1, b2, b3, b4, b5, b6, b7, true, false, false, false, b12, false, gd, qd, gc, qc, ga, gb, qb, g, us, ⟨e1, e2, e3, e5, e6, fun h => Bool.noConfusion h, fun h => Bool.noConfusion h, fun h => Bool.noConfusion h, fun h => Bool.noConfusion h⟩, rfl, rfl, hR⟩
    · -- 9
      simp only [List.getElem?_toArray, List.getElem?_cons_succ, List.getElem?_cons_zero, Option.some.injEq] at ho
      subst ho
      have hbi : b9 = false := by simpa using hun
      subst hbi
      have hd8 : b8 = true := by have := hdep ⟨8, .data⟩ (by simp) rfl; simpa using this
      subst hd8
      obtain rfl : b10 = false := Bool.eq_false_iff.2 (fun h => Bool.noConfusion (e10 h))
      obtain rfl : b11 = false := Bool.eq_false_iff.2 (fun h => Bool.noConfusion (e11 h).2.2.2)
      obtain rfl : b13 = false := Bool.eq_false_iff.2 (fun h => Bool.noConfusion (e13 h).2)
      refine wpOpIn_step rfl (fun K hK => ?_)
      clear hun hdep hi
      have t0 := (hR.low.cell (p := ⟨w.heap.size, 1, none⟩) hzW).trans k1
      go_simp
      refine hK _ _ ⟨b0, b1, b2, b3, b4, b5, b6, b7, true, true, false, false, b12, false, gd, qd, gc, qc, ga, gb, qb, g, us, ⟨e1, e2, e3, e5, e6, fun _ => rfl, fun h => Bool.noConfusion h, fun h => Bool.noConfusion h, fun h => Bool.noConfusion h⟩, rfl, rfl, hR⟩
    · -- 10
      simp only [List.getElem?_toArray, List.getElem?_cons_succ, List.getElem?_cons_zero, Option.some.injEq] at ho
      subst ho
      have hbi : b10 = false := by simpa using hun
      subst hbi
      have hd9 : b9 = true := by have := hdep ⟨9, .data⟩ (by simp) rfl; simpa using this
      have hd8 : b8 = true := (e9 hd9)
      subst hd8 hd9
      obtain rfl : b11 = false := Bool.eq_false_iff.2 (fun h => Bool.noConfusion (e11 h).2.2.2)
      obtain rfl : b13 = false := Bool.eq_false_iff.2 (fun h => Bool.noConfusion (e13 h).2)
      refine wpOpIn_step rfl (fun K hK => ?_)
      clear hun hdep hi
      go_simp
      refine ⟨trivial, (callsIn_wide.2 (HMC.out w' (HG2.out.b.trans (hR.low.mono HG2.out.b.size)))).mono ?_⟩
      rintro e w'' ⟨yg, yc, rfl, hF, hb'⟩
      refine hK _ _ ⟨b0, b1, b2, b3, b4, b5, b6, b7, true, true, true, false, b12, false, gd, qd, gc, qc, ga, yg, yc, g, us, ⟨e1, e2, e3, e5, e6, fun _ => rfl, fun _ => rfl, fun h => Bool.noConfusion h, fun h => Bool.noConfusion h⟩, rfl, rfl, hR.callB hF hb'⟩
    · -- 11
      simp only [List.getElem?_toArray, List.getElem?_cons_succ, List.getElem?_cons_zero, Option.some.injEq] at ho
      subst ho
      have hbi : b11 = false := by simpa using hun
      subst hbi
      have hd3 : b3 = true := by have := hdep ⟨3, .data⟩ (by simp) rfl; simpa using this
      have hd6 : b6 = true := by have := hdep ⟨6, .data⟩ (by simp) rfl; simpa using this
      have hd7 : b7 = true := by have := hdep ⟨7, .data⟩ (by simp) rfl; simpa using this
      have hd10 : b10 = true := by have := hdep ⟨10, .data⟩ (by simp) rfl; simpa using this
      have hd9 : b9 = true := (e10 hd10)
      have hd8 : b8 = true := (e9 hd9)
      have hd5 : b5 = true := (e6 hd6)
      have hd4 : b4 = true := (e5 hd5)
      have hd2 : b2 = true := (e3 hd3)
      have hd1 : b1 = true := (e2 hd2)
      have hd0 : b0 = true := (e1 hd1)
      subst hd0 hd1 hd2 hd3 hd4 hd5 hd6 hd7 hd8 hd9 hd10
      obtain rfl : b13 = false := Bool.eq_false_iff.2 (fun h => Bool.noConfusion (e13 h).2)
      refine wpOpIn_step rfl (fun K hK => ?_)
      clear hun hdep hi
      go_simp
      refine hK _ _ ⟨true, true, true, true, true, true, true, true, true, true, true, true, b12, false, gd, qd, gc, qc, ga, gb, qb, g, us, ⟨fun _ => rfl, fun _ => rfl, fun _ => rfl, fun _ => rfl, fun _ => rfl, fun _ => rfl, fun _ => rfl, fun _ => ⟨rfl, rfl, rfl, rfl⟩, fun h => Bool.noConfusion h⟩, rfl, rfl, hR⟩
    · -- 12
      simp only [List.getElem?_toArray, List.getElem?_cons_succ, List.getElem?_cons_zero, Option.some.injEq] at ho
      subst ho
      have hbi : b12 = false := by simpa using hun
      subst hbi
      obtain rfl : b13 = false := Bool.eq_false_iff.2 (fun h => Bool.noConfusion (e13 h).1)
      refine wpOpIn_step rfl (fun K hK => ?_)
      clear hun hdep hi
      go_simp
      refine hK _ _ ⟨b0, b1, b2, b3, b4, b5, b6, b7, b8, b9, b10, b11, true, false, gd, qd, gc, qc, ga, gb, qb, w'.heap.size, us, ⟨e1, e2, e3, e5, e6, e9, e10, e11, fun h => Bool.noConfusion h⟩, rfl, rfl, hR.box_⟩
    · -- 13
      simp only [List.getElem?_toArray, List.getElem?_cons_succ, List.getElem?_cons_zero, Option.some.injEq] at ho
      subst ho
      have hbi : b13 = false := by simpa using hun
      subst hbi
      have hd11 : b11 = true := by have := hdep ⟨11, .data⟩ (by simp) rfl; simpa using this
      have hd12 : b12 = true := by have := hdep ⟨12, .data⟩ (by simp) rfl; simpa using this
      have hd10 : b10 = true := (e11 hd11).2.2.2
      have hd9 : b9 = true := (e10 hd10)
      have hd8 : b8 = true := (e9 hd9)
      have hd7 : b7 = true := (e11 hd11).2.2.1
      have hd6 : b6 = true := (e11 hd11).2.1
      have hd5 : b5 = true := (e6 hd6)
      have hd4 : b4 = true := (e5 hd5)
      have hd3 : b3 = true := (e11 hd11).1
      have hd2 : b2 = true := (e3 hd3)
      have hd1 : b1 = true := (e2 hd2)
      have hd0 : b0 = true := (e1 hd1)
      subst hd0 hd1 hd2 hd3 hd4 hd5 hd6 hd7 hd8 hd9 hd10 hd11 hd12
      refine wpOpIn_step rfl (fun K hK => ?_)
      clear hun hdep hi
      obtain ⟨z1, z2, z3⟩ := hR.box rfl
      obtain ⟨t0, t1, t2, t3⟩ := hR.zero rfl rfl
      have f0 := z3 0
      have f1 := z3 1
      have f2 := z3 2
      have f3 := z3 3
      clear z1 z3
      go_simp
      refine hK _ _ ⟨true, true, true, true, true, true, true, true, true, true, true, true, true, true, gd, qd, gc, qc, ga, gb, qb, g, us, ⟨fun _ => rfl, fun _ => rfl, fun _ => rfl, fun _ => rfl, fun _ => rfl, fun _ => rfl, fun _ => rfl, fun _ => ⟨rfl, rfl, rfl, rfl⟩, fun _ => ⟨rfl, rfl⟩⟩, rfl, rfl, hR.store_⟩
end Go.Proofs.Ytgncaploccbfnaa.PW
