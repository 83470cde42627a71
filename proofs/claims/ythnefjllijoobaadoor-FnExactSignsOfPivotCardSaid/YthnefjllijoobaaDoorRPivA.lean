/-
  The pivot of a set, in the program: behind the door, and PivotOf.
  The pivot of a set, in the model: what holds while it is built.
  Walks: the pivot of a set, in the model: the walk, at each sign of the determinant. (Made by genpivx.py of XRPivX.part.)
  The pivot of a set, in the model: PivotOf.
-/
import Derived.Test.YthnefjllijoobaaDoorRPivW
import Derived.Test.YthnefjllijoobaaDoorRPvG
import Derived.Test.YthnefjllijoobaaDoorRDoor
namespace Go.Proofs.YthnefjllijoobaaDoor.PW
open Go.RowKit Go.Proofs.YthnefjllijoobaaDoor
open Go.Proofs.YthnefjllijoobaaDoor.PM Go.Proofs.YthnefjllijoobaaDoor.PX

/-- The model of a pivot, with its code. -/
structure PvT where
  d : Int
  R : List (List Int)
  S : List Int
  c : Int
def pvOut (M : List (List Int)) (Q : List Int) (s : Int) : PvT :=
  if setCode M Q s ≠ 0 then ⟨0, [], [], setCode M Q s⟩ else if dt M.length (colS M s) = 0 then ⟨0, [], [], 5⟩ else ⟨pvD M s, tab M.length (pvR M s), (List.range M.length).map (pvS M Q s), 0⟩
theorem pvOut_e1 {M : List (List Int)} {Q : List Int} {s c : Int} (h : setCode M Q s = c) (hc : c ≠ 0) : pvOut M Q s = ⟨0, [], [], c⟩ := by unfold pvOut; rw [if_pos (by omega), h]
theorem pvOut_e2 {M : List (List Int)} {Q : List Int} {s : Int} (h0 : setCode M Q s = 0) (hm : dt M.length (colS M s) = 0) : pvOut M Q s = ⟨0, [], [], 5⟩ := by unfold pvOut; rw [if_neg (by omega), if_pos hm]
theorem pvOut_ok {M : List (List Int)} {Q : List Int} {s : Int} (h0 : setCode M Q s = 0) (hm : dt M.length (colS M s) ≠ 0) : pvOut M Q s = ⟨pvD M s, tab M.length (pvR M s), (List.range M.length).map (pvS M Q s), 0⟩ := by unfold pvOut; rw [if_neg (by omega), if_neg hm]
/-- What a function leaves that returns a pivot and a code. -/
def OutPv (w : World) (o : PvT) (e : Ending) (w' : World) : Prop :=
  ∃ a c a' c' us, e = .returned (.tuple #[.agg #[.int .i64 o.d, .slice a o.R.length c, .slice a' o.S.length c'], .int .i64 o.c]) ∧ PvM w.heap.size w' (.slice a o.R.length c) (.slice a' o.S.length c') o.R o.S us ∧ Below w.heap.size w w'
theorem PvM.nil (lo : Nat) (w : World) : PvM lo w (.slice none 0 0) (.slice none 0 0) [] [] [] :=
  ⟨ownRs_nil _ _, World.ownsRow_nil _ _ _ _, fun b hb => by simp [Value.ownBlock] at hb, fun i b hi => absurd hi (Nat.not_lt_zero i)⟩
theorem PvM.outV {w w' : World} {d : Int} {v q : Value} {R : List (List Int)} {S : List Int} {us : List Value} (h : PvM w.heap.size w' v q R S us) (hB : Below w.heap.size w w') : OutV w d R S (.returned (.agg #[.int .i64 d, v, q])) w' :=
  ⟨v, q, us, rfl, h.rows, h.side, h.qb, h.qu, hB⟩
theorem outPv_err {w w' : World} {c : Int} (hB : Below w.heap.size w w') : OutPv w ⟨0, [], [], c⟩ (.returned (.tuple #[.agg #[.int .i64 0, .slice none 0 0, .slice none 0 0], .int .i64 c])) w' := ⟨none, 0, none, 0, [], rfl, PvM.nil _ _, hB⟩

set_option maxHeartbeats 1000000 in
theorem pvWork_ok (Bp Bs : Nat) (m q : Value) (M : List (List Int)) (Q : List Int) (s : Int) (w : World) (h1 : PM.Rows w m M) (h2 : Ints w q Q) (hp : isPB M Q = true) (hs0 : 0 ≤ s) (hs1 : s < 2 ^ M.length) (hD : dt M.length (colS M s) ≠ 0)
    (c0 : w.cell? ⟨Bp, 0, none⟩ = some m) (c1 : w.cell? ⟨Bp, 1, none⟩ = some q) (c2 : w.cell? ⟨Bs, 0, none⟩ = some (.int .i64 s)) :
    Calls Tryd.prog 49 #[.pointer (some ⟨Bp, 0, none⟩), .pointer (some ⟨Bs, 0, none⟩)] w (OutV w (pvD M s) (tab M.length (pvR M s)) ((List.range M.length).map (pvS M Q s))) := by
  have HB := Lib.hid (fun (w' : World) (h : Below w.heap.size w w') => (pivotOf_ok m q M Q s w' (h1.below h) (h2.below h) hp hs0 hs1 hD).mono (fun e w2 h => h.m))
  have l0 := World.block_lt_of_cell? w _ c0
  have l1 := World.block_lt_of_cell? w _ c2
  simp at l0 l1
  obtain ⟨a1, k1, rfl, _⟩ := h1
  obtain ⟨a2, k2, rfl, _⟩ := h2
  clear hp hs0 hs1 hD
  generalize pvD M s = D at *
  generalize tab M.length (pvR M s) = R at *
  generalize (List.range M.length).map (pvS M Q s) = S at *
  go_enter Tryd.func49, Tryd.ntmps49
  go_wp2_with fail
  refine (HB.out _ (by (repeat' (first | (with_reducible exact Below.refl _ _) | (with_reducible assumption) | (with_reducible refine Below.alloc ?_ ?_ _) | (with_reducible refine Below.drew ?_) | (with_reducible refine below_drewN ?_ _) | (with_reducible refine Below.setCell ?_ ?_ _) | (with_reducible refine Below.trans ?_ (Below.mono (by with_reducible assumption) ?_)) | (with_reducible exact Below.size (by with_reducible assumption)) | go_size)))).mono ?_; rintro e w1 ⟨a, c, a', c', us, rfl, hM, hb1⟩
  have e0 : w1.cell? ⟨w.heap.size, 0, none⟩ = some (.int .i64 0) := (hb1.cell (p := ⟨w.heap.size, 0, none⟩) (by simp)).trans (by simp)
  have e1 : w1.cell? ⟨w.heap.size, 1, none⟩ = some (.slice none 0 0) := (hb1.cell (p := ⟨w.heap.size, 1, none⟩) (by simp)).trans (by simp)
  have e2 : w1.cell? ⟨w.heap.size, 2, none⟩ = some (.slice none 0 0) := (hb1.cell (p := ⟨w.heap.size, 2, none⟩) (by simp)).trans (by simp)
  have e3 : ∀ o, w1.frozen? ⟨w.heap.size, o, none⟩ = false := fun o => (hb1.frozen (p := ⟨w.heap.size, o, none⟩) (by simp)).trans (by simp)
  have hw1 : Below w.heap.size w w1 := by (repeat' (first | (with_reducible exact Below.refl _ _) | (with_reducible assumption) | (with_reducible refine Below.alloc ?_ ?_ _) | (with_reducible refine Below.drew ?_) | (with_reducible refine below_drewN ?_ _) | (with_reducible refine Below.setCell ?_ ?_ _) | (with_reducible refine Below.trans ?_ (Below.mono (by with_reducible assumption) ?_)) | (with_reducible exact Below.size (by with_reducible assumption)) | go_size))
  have hz1 : w.heap.size + 1 ≤ w1.heap.size := by have := hb1.size; simpa using this
  have HM := Lib.hid hM
  have HW := Lib.hid hw1
  clear hM hb1 hw1
  go_wp2_with fail
  refine bodyPost_ret (v := .agg #[.int .i64 D, .slice a R.length c, .slice a' S.length c']) (by simp [*, results, Tryd.results49, go_sem]) rfl ?_
  have ht : Tch [w.heap.size] w1 (((w1.setCell ⟨w.heap.size, 0, none⟩ (.int .i64 D)).setCell ⟨w.heap.size, 1, none⟩ (.slice a R.length c)).setCell ⟨w.heap.size, 2, none⟩ (.slice a' S.length c')) := (((Tch.refl _ _).setCell (by simp) _).setCell (by simp) _).setCell (by simp) _
  exact ((HM.out.old ht (fun b hb => by simp at hb; simp; omega)).mono (by simp)).outV (HW.out.trans (ht.below (fun b hb => by simp at hb; omega)))
set_option maxHeartbeats 1000000 in
theorem pvWork_no (Bp Bs : Nat) (m q : Value) (M : List (List Int)) (Q : List Int) (s : Int) (w : World) (hG : Glob w) (h1 : PM.Rows w m M) (h2 : Ints w q Q) (hp : isPB M Q = true) (hs0 : 0 ≤ s) (hs1 : s < 2 ^ M.length) (hD : dt M.length (colS M s) = 0)
    (c0 : w.cell? ⟨Bp, 0, none⟩ = some m) (c1 : w.cell? ⟨Bp, 1, none⟩ = some q) (c2 : w.cell? ⟨Bs, 0, none⟩ = some (.int .i64 s)) :
    Calls Tryd.prog 49 #[.pointer (some ⟨Bp, 0, none⟩), .pointer (some ⟨Bs, 0, none⟩)] w fun e w' => (∃ a, e = .panicked [{ v := .iface 105 (.pointer (some a)), recovered := false }]) ∧ Below w.heap.size w w' := by
  have HB := Lib.hid (fun (w' : World) (h : Below w.heap.size w w') => pivotOf_no m q M Q s w' (hG.below h) (h1.below h) (h2.below h) hp hs0 hs1 hD)
  have l0 := World.block_lt_of_cell? w _ c0
  have l1 := World.block_lt_of_cell? w _ c2
  simp at l0 l1
  obtain ⟨a1, k1, rfl, _⟩ := h1
  obtain ⟨a2, k2, rfl, _⟩ := h2
  clear hp hs0 hs1 hD hG
  go_enter Tryd.func49, Tryd.ntmps49
  go_wp2_with fail
  refine (HB.out _ (by (repeat' (first | (with_reducible exact Below.refl _ _) | (with_reducible assumption) | (with_reducible refine Below.alloc ?_ ?_ _) | (with_reducible refine Below.drew ?_) | (with_reducible refine below_drewN ?_ _) | (with_reducible refine Below.setCell ?_ ?_ _) | (with_reducible refine Below.trans ?_ (Below.mono (by with_reducible assumption) ?_)) | (with_reducible exact Below.size (by with_reducible assumption)) | go_size)))).mono ?_; rintro e w1 ⟨⟨a, rfl⟩, hb1⟩
  go_wp2_with fail
  exact ⟨rfl, ⟨_, rfl⟩, by (repeat' (first | (with_reducible exact Below.refl _ _) | (with_reducible assumption) | (with_reducible refine Below.alloc ?_ ?_ _) | (with_reducible refine Below.drew ?_) | (with_reducible refine below_drewN ?_ _) | (with_reducible refine Below.setCell ?_ ?_ _) | (with_reducible refine Below.trans ?_ (Below.mono (by with_reducible assumption) ?_)) | (with_reducible exact Below.size (by with_reducible assumption)) | go_size))⟩

set_option maxRecDepth 100000 in
theorem doorP_ok (cap : Array Value) (w : World) (d : Int) (R : List (List Int)) (S : List Int) (hw : Calls Tryd.prog 49 cap (PvW1 5 w) (OutV (PvW1 5 w) d R S)) :
    Calls Tryd.prog 48 #[.int .i64 5, .func (.func 49) #[] cap] w fun e w' => ∃ v, e = .returned (.tuple #[v, .int .i64 0]) ∧ OutV w d R S (.returned v) w' := by
  have hmf : ∀ (fn : Fn) (first cap : Array Value) (w : World), (Instr.makeFunc fn first cap).run Tryd.prog w = .ok (.func fn first cap) w := fun _ _ _ _ => rfl
  have HW := Lib.hid (hw.mono (fun e w' h => h.m))
  rw [PvW1.size] at HW
  have hsz := PvW1.size 5 w
  clear hw
  go_enter_defers Tryd.func48, Tryd.ntmps48
  go_wp2_with fail
  refine HW.out.mono ?_
  rintro e W' ⟨a, c, a', c', us, rfl, hM, hb⟩
  have h0 : W'.cell? ⟨w.heap.size + 1, 0, none⟩ = some (.int .i64 0) := (hb.cell (p := ⟨w.heap.size + 1, 0, none⟩) (by show w.heap.size + 1 < _; omega)).trans (PvW1.pv 5 w).1
  have h1 : W'.cell? ⟨w.heap.size + 1, 1, none⟩ = some (.slice none 0 0) := (hb.cell (p := ⟨w.heap.size + 1, 1, none⟩) (by show w.heap.size + 1 < _; omega)).trans (PvW1.pv 5 w).2.1
  have h2 : W'.cell? ⟨w.heap.size + 1, 2, none⟩ = some (.slice none 0 0) := (hb.cell (p := ⟨w.heap.size + 1, 2, none⟩) (by show w.heap.size + 1 < _; omega)).trans (PvW1.pv 5 w).2.2.1
  have z0 : ∀ o, W'.frozen? ⟨w.heap.size + 1, o, none⟩ = false := fun o => (hb.frozen (p := ⟨w.heap.size + 1, o, none⟩) (by show w.heap.size + 1 < _; omega)).trans ((PvW1.pv 5 w).2.2.2 o)
  have h3 : W'.cell? ⟨w.heap.size + 1 + 1, 0, none⟩ = some (.int .i64 0) := (hb.cell (p := ⟨w.heap.size + 1 + 1, 0, none⟩) (by show w.heap.size + 1 + 1 < _; omega)).trans (PvW1.code 5 w).1
  have z3 : W'.frozen? ⟨w.heap.size + 1 + 1, 0, none⟩ = false := (hb.frozen (p := ⟨w.heap.size + 1 + 1, 0, none⟩) (by show w.heap.size + 1 + 1 < _; omega)).trans (PvW1.code 5 w).2
  have hB : Below w.heap.size w W' := (PvW1.low 5 w).trans (hb.mono (by omega))
  have HM := Lib.hid hM
  clear hM hb
  go_wp2_with fail
  refine leaves_cons (f := 73) (args := #[.pointer (some ⟨w.heap.size, 0, none⟩), .pointer (some ⟨w.heap.size + 1 + 1, 0, none⟩)]) (by simp) (by simp [go_sem]) ?_
  refine (doorP_idle ⟨w.heap.size, 0, none⟩ ⟨w.heap.size + 1 + 1, 0, none⟩ _).mono ?_
  rintro e u' w'' ⟨rfl, rfl, rfl⟩
  obtain ⟨W7, hW7⟩ : ∃ W7, W7 = (((W'.setCell ⟨w.heap.size + 1, 0, none⟩ (.int .i64 d)).setCell ⟨w.heap.size + 1, 1, none⟩ (.slice a R.length c)).setCell ⟨w.heap.size + 1, 2, none⟩ (.slice a' S.length c')).setCell ⟨w.heap.size + 1 + 1, 0, none⟩ (.int .i64 0) := ⟨_, rfl⟩
  have k0 : W7.cell? ⟨w.heap.size + 1, 0, none⟩ = some (.int .i64 d) := by rw [hW7]; simp [h0, go_sem]
  have k1 : W7.cell? ⟨w.heap.size + 1, 1, none⟩ = some (.slice a R.length c) := by rw [hW7]; simp [h1, go_sem]
  have k2 : W7.cell? ⟨w.heap.size + 1, 2, none⟩ = some (.slice a' S.length c') := by rw [hW7]; simp [h2, go_sem]
  have k3 : W7.cell? ⟨w.heap.size + 1 + 1, 0, none⟩ = some (.int .i64 0) := by rw [hW7]; simp [h3, go_sem]
  have ht : Tch [w.heap.size + 1, w.heap.size + 1 + 1] W' W7 := by rw [hW7]; exact ((((Tch.refl _ _).setCell (by simp) _).setCell (by simp) _).setCell (by simp) _).setCell (by simp) _
  have hR : OutV w d R S (.returned (.agg #[.int .i64 d, .slice a R.length c, .slice a' S.length c'])) W7 :=
    ((HM.out.old ht (fun b hb => by simp at hb; omega)).mono (by omega)).outV (hB.trans (ht.below (fun b hb => by simp at hb; omega)))
  rw [← hW7]
  clear hW7
  simp [Leaves, settle, results, Tryd.results48, go_sem, k0, k1, k2, k3]
  exact hR

/-- The door with this work: the pivot. -/
theorem doorP_pivot (Bp Bs : Nat) (m q : Value) (M : List (List Int)) (Q : List Int) (s : Int) (w : World) (h1 : PM.Rows w m M) (h2 : Ints w q Q) (hp : isPB M Q = true) (hs0 : 0 ≤ s) (hs1 : s < 2 ^ M.length) (hm : dt M.length (colS M s) ≠ 0)
    (c0 : w.cell? ⟨Bp, 0, none⟩ = some m) (c1 : w.cell? ⟨Bp, 1, none⟩ = some q) (c2 : w.cell? ⟨Bs, 0, none⟩ = some (.int .i64 s)) :
    Calls Tryd.prog 48 #[.int .i64 5, .func (.func 49) #[] #[.pointer (some ⟨Bp, 0, none⟩), .pointer (some ⟨Bs, 0, none⟩)]] w fun e w' => ∃ a c a' c' us, e = .returned (.tuple #[.agg #[.int .i64 (pvD M s), .slice a (tab M.length (pvR M s)).length c, .slice a' ((List.range M.length).map (pvS M Q s)).length c'], .int .i64 0]) ∧
      PvM w.heap.size w' (.slice a (tab M.length (pvR M s)).length c) (.slice a' ((List.range M.length).map (pvS M Q s)).length c') (tab M.length (pvR M s)) ((List.range M.length).map (pvS M Q s)) us ∧ Below w.heap.size w w' := by
  have hb := PvW1.low 5 w
  refine (doorP_ok _ w _ _ _ (pvWork_ok Bp Bs m q M Q s (PvW1 5 w) (h1.below hb) (h2.below hb) hp hs0 hs1 hm ((hb.cell (p := ⟨Bp, 0, none⟩) (World.block_lt_of_cell? w _ c0)).trans c0) ((hb.cell (p := ⟨Bp, 1, none⟩) (World.block_lt_of_cell? w _ c1)).trans c1) ((hb.cell (p := ⟨Bs, 0, none⟩) (World.block_lt_of_cell? w _ c2)).trans c2))).mono ?_
  rintro e w' ⟨v, rfl, hV⟩
  obtain ⟨a, c, a', c', us, he, h⟩ := hV.m
  simp only [Ending.returned.injEq] at he
  subst he
  exact ⟨a, c, a', c', us, rfl, h⟩
theorem doorP_none (Bp Bs : Nat) (m q : Value) (M : List (List Int)) (Q : List Int) (s : Int) (w : World) (hG : Glob w) (h1 : PM.Rows w m M) (h2 : Ints w q Q) (hp : isPB M Q = true) (hs0 : 0 ≤ s) (hs1 : s < 2 ^ M.length) (hm : dt M.length (colS M s) = 0)
    (c0 : w.cell? ⟨Bp, 0, none⟩ = some m) (c1 : w.cell? ⟨Bp, 1, none⟩ = some q) (c2 : w.cell? ⟨Bs, 0, none⟩ = some (.int .i64 s)) :
    Calls Tryd.prog 48 #[.int .i64 5, .func (.func 49) #[] #[.pointer (some ⟨Bp, 0, none⟩), .pointer (some ⟨Bs, 0, none⟩)]] w fun e w' => e = .returned (.tuple #[.agg #[.int .i64 0, .slice none 0 0, .slice none 0 0], .int .i64 5]) ∧ Below w.heap.size w w' := by
  have hb := PvW1.low 5 w
  have hw := pvWork_no Bp Bs m q M Q s (PvW1 5 w) (hG.below hb) (h1.below hb) (h2.below hb) hp hs0 hs1 hm ((hb.cell (p := ⟨Bp, 0, none⟩) (World.block_lt_of_cell? w _ c0)).trans c0) ((hb.cell (p := ⟨Bp, 1, none⟩) (World.block_lt_of_cell? w _ c1)).trans c1) ((hb.cell (p := ⟨Bs, 0, none⟩) (World.block_lt_of_cell? w _ c2)).trans c2)
  rw [PvW1.size] at hw
  exact doorP_panic 5 _ w hw

set_option maxHeartbeats 4000000 in
theorem implPivotOf_any (m q : Value) (M : List (List Int)) (Q : List Int) (s : Int) (w : World) (hG : Glob w) (h1 : PM.Rows w m M) (h2 : Ints w q Q) :
    Calls Tryd.prog 14 #[.agg #[m, q], .int .i64 s] w (OutPv w (pvOut M Q s)) := by
  have hmf : ∀ (fn : Fn) (first cap : Array Value) (w : World), (Instr.makeFunc fn first cap).run Tryd.prog w = .ok (.func fn first cap) w := fun _ _ _ _ => rfl
  have g1 := fun (w' : World) (h : Below w.heap.size w w') => h1.below h
  have g2 := fun (w' : World) (h : Below w.heap.size w w') => h2.below h
  have gg := fun (w' : World) (h : Below w.heap.size w w') => hG.below h
  clear hG
  obtain ⟨a1, c1, rfl, _⟩ := h1
  obtain ⟨a2, c2, rfl, _⟩ := h2
  obtain ⟨c, hc⟩ : ∃ c, c = setCode M Q s := ⟨_, rfl⟩
  have HC := Lib.hid hc
  by_cases hcz : c ≠ 0
  · rw [pvOut_e1 hc.symm hcz]
    clear hc
    go_enter Tryd.func14, Tryd.ntmps14
    go_wp2_with fail
    refine (checkSet_any _ _ M Q s _ (g1 _ (by (repeat' (first | (with_reducible exact Below.refl _ _) | (with_reducible assumption) | (with_reducible refine Below.alloc ?_ ?_ _) | (with_reducible refine Below.drew ?_) | (with_reducible refine below_drewN ?_ _) | (with_reducible refine Below.setCell ?_ ?_ _) | (with_reducible refine Below.trans ?_ (Below.mono (by with_reducible assumption) ?_)) | (with_reducible exact Below.size (by with_reducible assumption)) | go_size)))) (g2 _ (by (repeat' (first | (with_reducible exact Below.refl _ _) | (with_reducible assumption) | (with_reducible refine Below.alloc ?_ ?_ _) | (with_reducible refine Below.drew ?_) | (with_reducible refine below_drewN ?_ _) | (with_reducible refine Below.setCell ?_ ?_ _) | (with_reducible refine Below.trans ?_ (Below.mono (by with_reducible assumption) ?_)) | (with_reducible exact Below.size (by with_reducible assumption)) | go_size))))).mono ?_; rw [← HC.out]; rintro e w1 ⟨rfl, hb1⟩; obtain ⟨hc_hb1, hf_hb1⟩ := bcell hb1; obtain ⟨hcA_hb1, hfA_hb1⟩ := bcellG (W0 := w) hb1 (by (repeat' (first | (with_reducible exact Below.refl _ _) | (with_reducible assumption) | (with_reducible refine Below.alloc ?_ ?_ _) | (with_reducible refine Below.drew ?_) | (with_reducible refine below_drewN ?_ _) | (with_reducible refine Below.setCell ?_ ?_ _) | (with_reducible refine Below.trans ?_ (Below.mono (by with_reducible assumption) ?_)) | (with_reducible exact Below.size (by with_reducible assumption)) | go_size))); have hz_hb1 := hb1.size; (try simp at hz_hb1); (try simp only [Nat.add_one_le_iff] at hz_hb1); have hz0_hb1 : w.heap.size < w1.heap.size := (by omega); have hz1_hb1 : w.heap.size + 1 < w1.heap.size := (by omega); have hz2_hb1 : w.heap.size + 1 + 1 < w1.heap.size := (by omega)
    go_wp2_with fail
    refine bodyPost_ret (v := .tuple #[.agg #[.int .i64 0, .slice none 0 0, .slice none 0 0], .int .i64 c]) (by simp [*, results, Tryd.results14, go_sem]) rfl ?_
    exact outPv_err (by (repeat' (first | (with_reducible exact Below.refl _ _) | (with_reducible assumption) | (with_reducible refine Below.alloc ?_ ?_ _) | (with_reducible refine Below.drew ?_) | (with_reducible refine below_drewN ?_ _) | (with_reducible refine Below.setCell ?_ ?_ _) | (with_reducible refine Below.trans ?_ (Below.mono (by with_reducible assumption) ?_)) | (with_reducible exact Below.size (by with_reducible assumption)) | go_size)))
  have hc0 : setCode M Q s = 0 := by omega
  obtain ⟨hp, hs0, hs1⟩ : isPB M Q = true ∧ 0 ≤ s ∧ s < 2 ^ M.length := by
    rcases setCode_cases M Q s with h | h | ⟨_, h⟩
    · omega
    · omega
    · exact h
  have HP := Lib.hid hp
  have HS := Lib.hid (And.intro hs0 hs1)
  have HC0 := Lib.hid hc0
  clear hc hcz HC
  by_cases hm : dt M.length (colS M s) = 0
  · rw [pvOut_e2 hc0 hm]
    have HM := Lib.hid hm
    clear hp hs0 hs1 hc0 hm
    go_enter Tryd.func14, Tryd.ntmps14
    go_wp2_with fail
    refine (checkSet_any _ _ M Q s _ (g1 _ (by (repeat' (first | (with_reducible exact Below.refl _ _) | (with_reducible assumption) | (with_reducible refine Below.alloc ?_ ?_ _) | (with_reducible refine Below.drew ?_) | (with_reducible refine below_drewN ?_ _) | (with_reducible refine Below.setCell ?_ ?_ _) | (with_reducible refine Below.trans ?_ (Below.mono (by with_reducible assumption) ?_)) | (with_reducible exact Below.size (by with_reducible assumption)) | go_size)))) (g2 _ (by (repeat' (first | (with_reducible exact Below.refl _ _) | (with_reducible assumption) | (with_reducible refine Below.alloc ?_ ?_ _) | (with_reducible refine Below.drew ?_) | (with_reducible refine below_drewN ?_ _) | (with_reducible refine Below.setCell ?_ ?_ _) | (with_reducible refine Below.trans ?_ (Below.mono (by with_reducible assumption) ?_)) | (with_reducible exact Below.size (by with_reducible assumption)) | go_size))))).mono ?_; rw [HC0.out]; rintro e w1 ⟨rfl, hb1⟩; obtain ⟨hc_hb1, hf_hb1⟩ := bcell hb1; obtain ⟨hcA_hb1, hfA_hb1⟩ := bcellG (W0 := w) hb1 (by (repeat' (first | (with_reducible exact Below.refl _ _) | (with_reducible assumption) | (with_reducible refine Below.alloc ?_ ?_ _) | (with_reducible refine Below.drew ?_) | (with_reducible refine below_drewN ?_ _) | (with_reducible refine Below.setCell ?_ ?_ _) | (with_reducible refine Below.trans ?_ (Below.mono (by with_reducible assumption) ?_)) | (with_reducible exact Below.size (by with_reducible assumption)) | go_size))); have hz_hb1 := hb1.size; (try simp at hz_hb1); (try simp only [Nat.add_one_le_iff] at hz_hb1); have hz0_hb1 : w.heap.size < w1.heap.size := (by omega); have hz1_hb1 : w.heap.size + 1 < w1.heap.size := (by omega); have hz2_hb1 : w.heap.size + 1 + 1 < w1.heap.size := (by omega)
    have hw1 : Below w.heap.size w w1 := by (repeat' (first | (with_reducible exact Below.refl _ _) | (with_reducible assumption) | (with_reducible refine Below.alloc ?_ ?_ _) | (with_reducible refine Below.drew ?_) | (with_reducible refine below_drewN ?_ _) | (with_reducible refine Below.setCell ?_ ?_ _) | (with_reducible refine Below.trans ?_ (Below.mono (by with_reducible assumption) ?_)) | (with_reducible exact Below.size (by with_reducible assumption)) | go_size))
    have x0 : w1.cell? ⟨w.heap.size, 0, none⟩ = some (.slice a1 M.length c1) := by rw [hc_hb1 _ _ (by go_size)]; simp [go_sem]
    have x1 : w1.cell? ⟨w.heap.size, 1, none⟩ = some (.slice a2 Q.length c2) := by rw [hc_hb1 _ _ (by go_size)]; simp [go_sem]
    have x2 : w1.cell? ⟨w.heap.size + 1, 0, none⟩ = some (.int .i64 s) := by rw [hc_hb1 _ _ (by go_size)]; simp [go_sem]
    have y0 : w1.cell? ⟨w.heap.size + 1 + 1, 0, none⟩ = some (.int .i64 0) := by rw [hc_hb1 _ _ (by go_size)]; simp [go_sem]
    have y1 : w1.cell? ⟨w.heap.size + 1 + 1, 1, none⟩ = some (.slice none 0 0) := by rw [hc_hb1 _ _ (by go_size)]; simp [go_sem]
    have y2 : w1.cell? ⟨w.heap.size + 1 + 1, 2, none⟩ = some (.slice none 0 0) := by rw [hc_hb1 _ _ (by go_size)]; simp [go_sem]
    have y3 : ∀ o, w1.frozen? ⟨w.heap.size + 1 + 1, o, none⟩ = false := fun o => by rw [hf_hb1 _ _ (by go_size)]; simp [go_sem]
    have hl : w.heap.size + 1 + 1 < w1.heap.size := by omega
    go_wp2_with fail
    refine (doorP_none _ _ _ _ M Q s _ (gg _ hw1) (g1 _ hw1) (g2 _ hw1) HP.out HS.out.1 HS.out.2 HM.out x0 x1 x2).mono ?_; rintro e w3 ⟨rfl, hb3⟩
    have hw3 : Below w.heap.size w w3 := hw1.trans (hb3.mono hw1.size)
    have u0 := (hb3.cell (p := ⟨w.heap.size + 1 + 1, 0, none⟩) hl).trans y0
    have u1 := (hb3.cell (p := ⟨w.heap.size + 1 + 1, 1, none⟩) hl).trans y1
    have u2 := (hb3.cell (p := ⟨w.heap.size + 1 + 1, 2, none⟩) hl).trans y2
    have u3 := fun o => (hb3.frozen (p := ⟨w.heap.size + 1 + 1, o, none⟩) hl).trans (y3 o)
    clear x0 x1 x2 y0 y1 y2 y3 hc_hb1 hf_hb1 hcA_hb1 hfA_hb1 hz_hb1 hz0_hb1 hz1_hb1 hz2_hb1 hb1 hb3
    go_wp2_with fail
    refine bodyPost_ret (v := .tuple #[.agg #[.int .i64 0, .slice none 0 0, .slice none 0 0], .int .i64 5]) (by simp [*, results, Tryd.results14, go_sem]) rfl ?_
    exact outPv_err (((hw3.setCell (by simp; omega) _).setCell (by simp; omega) _).setCell (by simp; omega) _)
  · rw [pvOut_ok hc0 hm]
    have HM := Lib.hid hm
    have HDO := Lib.hid (fun (Bp Bs : Nat) (w' : World) (h : Below w.heap.size w w') j0 j1 j2 => doorP_pivot Bp Bs (.slice a1 M.length c1) (.slice a2 Q.length c2) M Q s w' (g1 w' h) (g2 w' h) hp hs0 hs1 hm j0 j1 j2)
    clear hp hs0 hs1 hc0 hm
    generalize pvD M s = D at *
    generalize tab M.length (pvR M s) = R at *
    generalize (List.range M.length).map (pvS M Q s) = S at *
    go_enter Tryd.func14, Tryd.ntmps14
    go_wp2_with fail
    refine (checkSet_any _ _ M Q s _ (g1 _ (by (repeat' (first | (with_reducible exact Below.refl _ _) | (with_reducible assumption) | (with_reducible refine Below.alloc ?_ ?_ _) | (with_reducible refine Below.drew ?_) | (with_reducible refine below_drewN ?_ _) | (with_reducible refine Below.setCell ?_ ?_ _) | (with_reducible refine Below.trans ?_ (Below.mono (by with_reducible assumption) ?_)) | (with_reducible exact Below.size (by with_reducible assumption)) | go_size)))) (g2 _ (by (repeat' (first | (with_reducible exact Below.refl _ _) | (with_reducible assumption) | (with_reducible refine Below.alloc ?_ ?_ _) | (with_reducible refine Below.drew ?_) | (with_reducible refine below_drewN ?_ _) | (with_reducible refine Below.setCell ?_ ?_ _) | (with_reducible refine Below.trans ?_ (Below.mono (by with_reducible assumption) ?_)) | (with_reducible exact Below.size (by with_reducible assumption)) | go_size))))).mono ?_; rw [HC0.out]; rintro e w1 ⟨rfl, hb1⟩; obtain ⟨hc_hb1, hf_hb1⟩ := bcell hb1; obtain ⟨hcA_hb1, hfA_hb1⟩ := bcellG (W0 := w) hb1 (by (repeat' (first | (with_reducible exact Below.refl _ _) | (with_reducible assumption) | (with_reducible refine Below.alloc ?_ ?_ _) | (with_reducible refine Below.drew ?_) | (with_reducible refine below_drewN ?_ _) | (with_reducible refine Below.setCell ?_ ?_ _) | (with_reducible refine Below.trans ?_ (Below.mono (by with_reducible assumption) ?_)) | (with_reducible exact Below.size (by with_reducible assumption)) | go_size))); have hz_hb1 := hb1.size; (try simp at hz_hb1); (try simp only [Nat.add_one_le_iff] at hz_hb1); have hz0_hb1 : w.heap.size < w1.heap.size := (by omega); have hz1_hb1 : w.heap.size + 1 < w1.heap.size := (by omega); have hz2_hb1 : w.heap.size + 1 + 1 < w1.heap.size := (by omega)
    have hw1 : Below w.heap.size w w1 := by (repeat' (first | (with_reducible exact Below.refl _ _) | (with_reducible assumption) | (with_reducible refine Below.alloc ?_ ?_ _) | (with_reducible refine Below.drew ?_) | (with_reducible refine below_drewN ?_ _) | (with_reducible refine Below.setCell ?_ ?_ _) | (with_reducible refine Below.trans ?_ (Below.mono (by with_reducible assumption) ?_)) | (with_reducible exact Below.size (by with_reducible assumption)) | go_size))
    have x0 : w1.cell? ⟨w.heap.size, 0, none⟩ = some (.slice a1 M.length c1) := by rw [hc_hb1 _ _ (by go_size)]; simp [go_sem]
    have x1 : w1.cell? ⟨w.heap.size, 1, none⟩ = some (.slice a2 Q.length c2) := by rw [hc_hb1 _ _ (by go_size)]; simp [go_sem]
    have x2 : w1.cell? ⟨w.heap.size + 1, 0, none⟩ = some (.int .i64 s) := by rw [hc_hb1 _ _ (by go_size)]; simp [go_sem]
    have y0 : w1.cell? ⟨w.heap.size + 1 + 1, 0, none⟩ = some (.int .i64 0) := by rw [hc_hb1 _ _ (by go_size)]; simp [go_sem]
    have y1 : w1.cell? ⟨w.heap.size + 1 + 1, 1, none⟩ = some (.slice none 0 0) := by rw [hc_hb1 _ _ (by go_size)]; simp [go_sem]
    have y2 : w1.cell? ⟨w.heap.size + 1 + 1, 2, none⟩ = some (.slice none 0 0) := by rw [hc_hb1 _ _ (by go_size)]; simp [go_sem]
    have y3 : ∀ o, w1.frozen? ⟨w.heap.size + 1 + 1, o, none⟩ = false := fun o => by rw [hf_hb1 _ _ (by go_size)]; simp [go_sem]
    have hl : w.heap.size + 1 + 1 < w1.heap.size := by omega
    go_wp2_with fail
    refine (HDO.out _ _ _ hw1 x0 x1 x2).mono ?_; rintro e w3 ⟨a, k, a', k', us, rfl, hM, hb3⟩
    have hw3 : Below w.heap.size w w3 := hw1.trans (hb3.mono hw1.size)
    have u0 := (hb3.cell (p := ⟨w.heap.size + 1 + 1, 0, none⟩) hl).trans y0
    have u1 := (hb3.cell (p := ⟨w.heap.size + 1 + 1, 1, none⟩) hl).trans y1
    have u2 := (hb3.cell (p := ⟨w.heap.size + 1 + 1, 2, none⟩) hl).trans y2
    have u3 := fun o => (hb3.frozen (p := ⟨w.heap.size + 1 + 1, o, none⟩) hl).trans (y3 o)
    have HM2 := Lib.hid hM
    clear x0 x1 x2 y0 y1 y2 y3 hc_hb1 hf_hb1 hcA_hb1 hfA_hb1 hz_hb1 hz0_hb1 hz1_hb1 hz2_hb1 hb1 hb3 hM
    go_wp2_with fail
    refine bodyPost_ret (v := .tuple #[.agg #[.int .i64 D, .slice a R.length k, .slice a' S.length k'], .int .i64 0]) (by simp [*, results, Tryd.results14, go_sem]) rfl ?_
    have ht : Tch [w.heap.size + 1 + 1] w3 (((w3.setCell ⟨w.heap.size + 1 + 1, 0, none⟩ (.int .i64 D)).setCell ⟨w.heap.size + 1 + 1, 1, none⟩ (.slice a R.length k)).setCell ⟨w.heap.size + 1 + 1, 2, none⟩ (.slice a' S.length k')) := (((Tch.refl _ _).setCell (by simp) _).setCell (by simp) _).setCell (by simp) _
    exact ⟨a, k, a', k', us, rfl, (HM2.out.old ht (fun b hb => by simp at hb; omega)).mono (by omega), hw3.trans (ht.below (fun b hb => by simp at hb; omega))⟩
end Go.Proofs.YthnefjllijoobaaDoor.PW
namespace Go.Proofs.YthnefjllijoobaaDoor.PW
open Go.RowKit Go.Proofs.YthnefjllijoobaaDoor
open Go.Proofs.YthnefjllijoobaaDoor.PM Go.Proofs.YthnefjllijoobaaDoor.PX

theorem and_oneP : ∀ (x : Fin 32), bits BinOp.and IntKind.i64 (x.val : Int) 1 = 0 ∨ bits BinOp.and IntKind.i64 (x.val : Int) 1 = 1 := by decide +kernel
theorem bit_casesP {s : Int} (h0 : 0 ≤ s) (h1 : s < 32) (k : Nat) : (bits BinOp.and IntKind.i64 (s / 2 ^ k) 1 = 0 ∧ bit s k = false) ∨ (bits BinOp.and IntKind.i64 (s / 2 ^ k) 1 = 1 ∧ bit s k = true) := by
  have hp : (0 : Int) < 2 ^ k := Int.pow_pos (by decide)
  have a1 : 0 ≤ s / 2 ^ k := Int.ediv_nonneg h0 (Int.le_of_lt hp)
  have a2 : s / 2 ^ k ≤ s := Int.ediv_le_self _ h0
  obtain ⟨m, hm⟩ := Int.eq_ofNat_of_zero_le a1
  have := and_oneP ⟨m, by omega⟩
  rw [hm]
  unfold bit
  rw [hm]
  rcases this with h | h
  · exact .inl ⟨h, by dsimp only at h; rw [h]; rfl⟩
  · exact .inr ⟨h, by dsimp only at h; rw [h]; rfl⟩
/-- The rows of which the columns before k are written, and the first i numbers of the column k. -/
def fKp (M : List (List Int)) (s : Int) (k i a b : Nat) : Int := if b < k ∨ (b = k ∧ a < i) then pvR M s a b else 0
theorem fKp_step (M : List (List Int)) (s : Int) (k i a b : Nat) : upd (fKp M s k i) i k (pvR M s i k) a b = fKp M s k (i + 1) a b := by
  unfold upd fKp
  by_cases e : a = i ∧ b = k
  · obtain ⟨rfl, rfl⟩ := e
    rw [if_pos ⟨rfl, rfl⟩, if_pos (.inr ⟨rfl, by omega⟩)]
  · rw [if_neg e]
    by_cases c : b < k ∨ (b = k ∧ a < i)
    · rw [if_pos c, if_pos (by omega)]
    · rw [if_neg c, if_neg (by omega)]
theorem fKp_next {M : List (List Int)} {s : Int} {k n a : Nat} (b : Nat) (ha : a < n) : fKp M s k n a b = fKp M s (k + 1) 0 a b := by
  unfold fKp
  by_cases c : b < k ∨ (b = k ∧ a < n)
  · rw [if_pos c, if_pos (by omega)]
  · rw [if_neg c, if_neg (by omega)]
theorem fKp_end {M : List (List Int)} {s : Int} {n b : Nat} (a : Nat) (hb : b < n) : fKp M s n 0 a b = pvR M s a b := by unfold fKp; rw [if_pos (.inl hb)]
/-- The right side that the column k of the pivot comes from, while it is written. -/
def ouL (M : List (List Int)) (s : Int) (k i a : Nat) : Int := if a < i ∧ bit s k = false then ent M a k else 0
theorem ouL_zero (M : List (List Int)) (s : Int) (k n : Nat) : (List.range n).map (ouL M s k 0) = List.replicate n 0 := by
  apply List.ext_getElem (by simp)
  intro i h1 h2
  simp [ouL]
theorem ouL_set {M : List (List Int)} {s : Int} {k : Nat} (n i : Nat) (hb : bit s k = false) : ((List.range n).map (ouL M s k i)).set i (ent M i k) = (List.range n).map (ouL M s k (i + 1)) := by
  rw [row_set]
  apply List.map_congr_left
  intro a _
  unfold ouL
  by_cases e : a = i
  · subst e; rw [if_pos rfl, if_pos ⟨by omega, hb⟩]
  · rw [if_neg e]
    by_cases c : a < i
    · rw [if_pos ⟨c, hb⟩, if_pos ⟨by omega, hb⟩]
    · rw [if_neg (fun h => c h.1), if_neg (fun h => by have := h.1; omega)]
theorem ouL_skip {M : List (List Int)} {s : Int} {k : Nat} (n i : Nat) (hb : bit s k = true) : (List.range n).map (ouL M s k i) = (List.range n).map (ouL M s k (i + 1)) := by
  apply List.map_congr_left
  intro a _
  unfold ouL
  rw [if_neg (fun h => by rw [hb] at h; exact Bool.noConfusion h.2), if_neg (fun h => by rw [hb] at h; exact Bool.noConfusion h.2)]
theorem ouL_out {M : List (List Int)} {s : Int} {k : Nat} (hb : bit s k = false) : (List.range M.length).map (ouL M s k M.length) = outL M s k := by
  unfold outL
  apply List.map_congr_left
  intro a ha
  unfold ouL outG
  rw [if_pos ⟨by simpa using ha, hb⟩, if_neg (by rw [hb]; exact Bool.noConfusion)]
theorem ouL_in {M : List (List Int)} {s : Int} {k : Nat} (hb : bit s k = true) : ((List.range M.length).map (ouL M s k M.length)).set k (-1) = outL M s k := by
  unfold outL
  rw [row_set]
  apply List.map_congr_left
  intro a ha
  unfold ouL outG
  rw [if_pos hb]
  by_cases e : a = k
  · rw [if_pos e, if_pos e.symm]
  · rw [if_neg e, if_neg (fun h => by rw [hb] at h; exact Bool.noConfusion h.2), if_neg (fun c => e c.symm)]
theorem outL_length (M : List (List Int)) (s : Int) (k : Nat) : (outL M s k).length = M.length := by simp [outL]
theorem outLP_bd {M : List (List Int)} {Q : List Int} (hp : isPB M Q = true) (s : Int) (k j : Nat) : Bd 20 ((outL M s k).getD j 0) := by
  unfold outL
  by_cases hj : j < M.length
  · rw [row_getD _ _ _ hj]; exact outG_bd hp s j k
  · rw [show ((List.range M.length).map fun i => outG M s i k).getD j 0 = 0 by simp [List.getD, List.getElem?_eq_none (show ((List.range M.length).map fun i => outG M s i k).length ≤ j by simp; omega)]]
    unfold Bd; decide
theorem outL_I64 {M : List (List Int)} {Q : List Int} (hp : isPB M Q = true) (s : Int) (k : Nat) : ∀ x ∈ outL M s k, I64 x := by
  intro x hx
  unfold outL at hx
  obtain ⟨a, _, rfl⟩ := List.mem_map.1 hx
  have := outG_bd hp s a k
  unfold Bd at this
  unfold I64
  omega
theorem powP_32 {n : Nat} (hn : n ≤ 5) : (2 : Int) ^ n ≤ 32 := by
  obtain rfl | rfl | rfl | rfl | rfl | rfl : n = 0 ∨ n = 1 ∨ n = 2 ∨ n = 3 ∨ n = 4 ∨ n = 5 := by omega
  all_goals decide
theorem pv_dtD {M : List (List Int)} {Q : List Int} (hp : isPB M Q = true) (s : Int) : Bd 1920000000 (dt M.length (colS M s)) := by
  obtain ⟨f1, f2, _⟩ := isPB_facts hp
  rw [dt_T _ _ f1 f2]
  exact lastT_bd (j0 := 5) (fun i j => (colS_all hp s i j).mono (u_ge _ _)) f2
def zTo (n k : Nat) : List (List Int) := (List.range k).map fun _ => List.replicate n 0
theorem zTo_succ (n k : Nat) : zTo n (k + 1) = zTo n k ++ [List.replicate n 0] := by simp [zTo, List.range_succ]
theorem zTo_length (n k : Nat) : (zTo n k).length = k := by simp [zTo]
theorem zTo_all (M : List (List Int)) (s : Int) : zTo M.length M.length = tab M.length (fKp M s 0 0) := by
  unfold zTo tab
  apply List.map_congr_left
  intro a _
  apply List.ext_getElem (by simp)
  intro i h1 h2
  simp [fKp]
theorem pvG_start (w : World) (d : Int) : PvG w.heap.size (((w.alloc (.cells #[] 23)).alloc (.cells #[] 2)).alloc (.cells #[.int .i64 d, .slice (some ⟨w.heap.size, 0, none⟩) 0 0, .slice (some ⟨w.heap.size + 1, 0, none⟩) 0 0] 28))
    (w.heap.size + 1 + 1) d (.slice (some ⟨w.heap.size, 0, none⟩) 0 0) (.slice (some ⟨w.heap.size + 1, 0, none⟩) 0 0) [] [] [] := by
  have hR := (freshR_nil w).below (w' := ((w.alloc (.cells #[] 23)).alloc (.cells #[] 2)).alloc (.cells #[.int .i64 d, .slice (some ⟨w.heap.size, 0, none⟩) 0 0, .slice (some ⟨w.heap.size + 1, 0, none⟩) 0 0] 28)) (((Below.refl _ _).alloc (Nat.le_refl _) _).alloc (by simp) _)
  have hI := (freshI_nil (w.alloc (.cells #[] 23))).below (w' := ((w.alloc (.cells #[] 23)).alloc (.cells #[] 2)).alloc (.cells #[.int .i64 d, .slice (some ⟨w.heap.size, 0, none⟩) 0 0, .slice (some ⟨w.heap.size + 1, 0, none⟩) 0 0] 28)) ((Below.refl _ _).alloc (Nat.le_refl _) _)
  obtain ⟨_, _, _, _, _, ho⟩ := hI
  rw [show (w.alloc (.cells #[] 23)).heap.size = w.heap.size + 1 by simp] at ho
  refine ⟨hR.ownRs, ho, fun b hb => ?_, fun i b hi => absurd hi (Nat.not_lt_zero _), by simp [go_sem], by simp [go_sem], by simp [go_sem], fun o => by simp [go_sem], by simp, ?_, ?_, fun i hi => absurd hi (Nat.not_lt_zero _), by omega⟩
  · simp [Value.ownBlock] at hb; simp; omega
  · simp [Value.ownBlock]; omega
  · simp [Value.ownBlock]
theorem own_at1 {w : World} {v : Value} {xs : List Int} {n : Nat} (h : OwnI w v xs) (hl : xs.length = n) (hn : 1 ≤ n) : ∃ g c, v = .slice (some ⟨g, 0, none⟩) n c := by
  rcases h.2 with ⟨_, c⟩ | ⟨g, cap, cur, hv, _⟩
  · omega
  · exact ⟨g, cap, by rw [hv, hl]⟩
/-- A row of a pivot behind a variable. -/
theorem PvG.at {B : Nat} {wr : World} {N n gv cv : Nat} {d : Int} {q : Value} {f : Nat → Nat → Int} {S : List Int} {us : List Value} (h : PvG B wr N d (.slice (some ⟨gv, 0, none⟩) n cv) q (tab n f) S us) {i : Nat} (hi : i < n) :
    ∃ gi ci, us.getD i undef = .slice (some ⟨gi, 0, none⟩) n ci ∧ wr.cell? ⟨gv, i, none⟩ = some (.slice (some ⟨gi, 0, none⟩) n ci) ∧ (∀ k, k < n → wr.cell? ⟨gi, k, none⟩ = some (.int .i64 (f i k)) ∧ wr.frozen? ⟨gi, k, none⟩ = false) ∧ B ≤ gi ∧ gi < wr.heap.size := by
  have hit : i < (tab n f).length := by rw [tab_length]; exact hi
  obtain ⟨⟨h1, h2, h3, h4, h5⟩, hm, hr⟩ := h.rows
  have hri := h3 i hit
  rw [tab_row _ _ _ hi] at hri
  obtain ⟨gi, ci, hu⟩ := own_at1 hri (row_length _ _) (by omega)
  refine ⟨gi, ci, hu, ?_, fun k hk => ?_, ?_⟩
  · rw [tab_length] at h1 h2
    rw [World.ownsRow.cellAt h2 i (by omega), ← hu]
    simp [h1, hi]
  · rw [hu] at hri
    refine ⟨?_, own_frozenN hri (row_length _ _).symm k⟩
    rw [own_cellN hri (row_length _ _).symm hk, row_getD _ _ _ hk]
  · exact hr i gi hit (by rw [hu]; rfl)
theorem PvG.congr {B : Nat} {wr : World} {N n : Nat} {d : Int} {v q : Value} {f f' : Nat → Nat → Int} {S : List Int} {us : List Value} (h : PvG B wr N d v q (tab n f) S us) (e : ∀ a b, a < n → b < n → f a b = f' a b) : PvG B wr N d v q (tab n f') S us := by
  rw [← tab_congr e]; exact h
theorem PvG.top1 {B : Nat} {wr : World} {N n : Nat} {d : Int} {v q : Value} {R : List (List Int)} {S : List Int} {us : List Value} (h : PvG B wr N d v q R S us) (hl : R.length = n) (hn : 1 ≤ n) : ∃ g c, v = .slice (some ⟨g, 0, none⟩) n c := by
  rcases h.rows.rows.top.2 with ⟨_, c⟩ | ⟨g, cap, cur, hv, _⟩
  · omega
  · exact ⟨g, cap, by rw [hv, hl]⟩
theorem PvG.side1 {B : Nat} {wr : World} {N n : Nat} {d : Int} {v q : Value} {R : List (List Int)} {S : List Int} {us : List Value} (h : PvG B wr N d v q R S us) (hl : S.length = n) (hn : 1 ≤ n) : ∃ g c, q = .slice (some ⟨g, 0, none⟩) n c := own_at1 h.side hl hn
end Go.Proofs.YthnefjllijoobaaDoor.PW
namespace Go.Proofs.YthnefjllijoobaaDoor.PW
open Go.RowKit Go.Proofs.YthnefjllijoobaaDoor
open Go.Proofs.YthnefjllijoobaaDoor.PM Go.Proofs.YthnefjllijoobaaDoor.PX

set_option maxRecDepth 100000 in
set_option maxHeartbeats 8000000 in
theorem l04Pivot_pos (m q : Value) (M : List (List Int)) (Q : List Int) (s : Int) (w : World) (h1 : PM.Rows w m M) (h2 : Ints w q Q) (hp : isPB M Q = true) (hs0 : 0 ≤ s) (hs1 : s < 2 ^ M.length) (hsg : 0 < dt M.length (colS M s)) :
    Calls Tryd.prog 45 #[.agg #[m, q], .int .i64 s] w fun e w' => ∃ a c a' c' us, e = .returned (.tuple #[.agg #[.int .i64 (pvD M s), .slice a M.length c, .slice a' M.length c'], .bool true]) ∧
      PvM w.heap.size w' (.slice a M.length c) (.slice a' M.length c') (tab M.length (pvR M s)) ((List.range M.length).map (pvS M Q s)) us ∧ Below w.heap.size w w' := by
  have g1 := fun (w' : World) (h : Below w.heap.size w w') => h1.below h
  have g2 := fun (w' : World) (h : Below w.heap.size w w') => h2.below h
  obtain ⟨f1, f2, f3, f4, f5⟩ := isPB_facts hp
  obtain ⟨a1, c1, rfl, _, _, hx⟩ := h1
  obtain ⟨b, off, rfl, hblt, hcell⟩ : ∃ b off, a1 = some ⟨b, off, none⟩ ∧ b < w.heap.size ∧ ∀ i, i < M.length → ∃ u, w.cell? ⟨b, off + i, none⟩ = some u ∧ Ints w u (M.getD i []) := by
    rcases hx with hx | hx
    · rw [hx] at f1; simp at f1
    · exact hx
  obtain ⟨bq, oq, c2, rfl, _, _⟩ := ints_at h2 f3 f1
  have HCE := Lib.hid hcell
  have HRL := Lib.hid (fun j hj => (f4 j hj).1)
  have HE := Lib.hid (ent_bd hp)
  have HI := Lib.hid (tab_I64 (n := M.length) (g := colS M s) (B := 20) (by decide) (fun i j _ _ => colS_all hp s i j))
  obtain ⟨D, hDD⟩ : ∃ D, D = dt M.length (colS M s) := ⟨_, rfl⟩
  obtain ⟨G, hG⟩ : ∃ G : Nat → Int, G = fun j => dt M.length (setCol (colS M s) j Q) := ⟨_, rfl⟩
  obtain ⟨H, hH⟩ : ∃ H : Nat → Nat → Int, H = fun k j => dt M.length (setCol (colS M s) j (outL M s k)) := ⟨_, rfl⟩
  have hbq : ∀ j, Bd 100 (Q.getD j 0) := fun j => isPB_q hp j
  have hsol := fun (v : Value) (w' : World) (h : PM.Rows w' v (tab M.length (colS M s))) (hb : Below w.heap.size w w') => l01Solve_any v _ M.length (colS M s) Q w' h (g2 w' hb) f3 f1 f2 (fun i j => (colS_all hp s i j).mono (by decide)) hbq
  have hso2 := fun (k : Nat) (v u : Value) (w' : World) (h : PM.Rows w' v (tab M.length (colS M s))) (hu : Ints w' u (outL M s k)) => l01Solve_any v u M.length (colS M s) (outL M s k) w' h hu (outL_length M s k) f1 f2 (fun i j => (colS_all hp s i j).mono (by decide)) (fun j => (outLP_bd hp s k j).mono (by decide))
  have hgb := fun j => pv_dtS hp s j
  have hhb := fun k j => pv_dtR hp s j k
  have hdb := pv_dtD hp s
  have hgb' : ∀ j, Bd 1920000000 (G j) := fun j => by rw [hG]; exact hgb j
  have hhb' : ∀ k j, Bd 1920000000 (H k j) := fun k j => by rw [hH]; exact hhb k j
  have HPD : Hid (pvD M s = (D)) := Lib.hid (by unfold pvD sgD; rw [if_neg (by omega), ← hDD, Int.one_mul])
  have HPS : Hid (∀ i, pvS M Q s i = (G i)) := Lib.hid (fun i => by unfold pvS sgD; rw [if_neg (by omega), hG, Int.one_mul])
  have HPR : Hid (∀ i k, pvR M s i k = (H k i)) := Lib.hid (fun i k => by unfold pvR sgD; rw [if_neg (by omega), hH, Int.one_mul])
  rw [← hDD] at hsol hso2 hdb hsg
  have HS : Hid (∀ (v : Value) (w' : World), PM.Rows w' v (tab M.length (colS M s)) → Below w.heap.size w w' → Calls Tryd.prog 72 #[v, .slice (some ⟨bq, oq, none⟩) M.length c2] w' fun r w2 => ∃ g c, r = .returned (.tuple #[.slice (some ⟨g, 0, none⟩) M.length c, .int .i64 D]) ∧ FreshI w'.heap.size w2 (.slice (some ⟨g, 0, none⟩) M.length c) ((List.range M.length).map G) ∧ Below w'.heap.size w' w2) := Lib.hid (by rw [hG]; exact hsol)
  have HS2 : Hid (∀ (k : Nat) (v u : Value) (w' : World), PM.Rows w' v (tab M.length (colS M s)) → Ints w' u (outL M s k) → Calls Tryd.prog 72 #[v, u] w' fun r w2 => ∃ g c, r = .returned (.tuple #[.slice (some ⟨g, 0, none⟩) M.length c, .int .i64 D]) ∧ FreshI w'.heap.size w2 (.slice (some ⟨g, 0, none⟩) M.length c) ((List.range M.length).map (H k)) ∧ Below w'.heap.size w' w2) := Lib.hid (by rw [hH]; exact hso2)
  have HGB := Lib.hid hgb'
  have HHB := Lib.hid hhb'
  have HOI := Lib.hid (fun k => outL_I64 hp s k)
  have HQL := Lib.hid f3
  have HBC := Lib.hid (fun k => bit_casesP hs0 (Int.lt_of_lt_of_le hs1 (powP_32 f2)) k)
  have hsD : ¬ D < 0 := by omega
  have hDn : (D == 0) = false := by rw [beq_eq_false_iff_ne]; omega
  have hmk := run_make_row' (P := Tryd.prog) 23 2 (.int .i64 0) 8 Tryd.underlying23 info_int rfl .i64 .i64 M.length (by omega) (by omega)
  obtain ⟨i0, hi, hzz0, hzz1, hzz2⟩ := info_parts info_ints
  obtain ⟨j0, hj, hyy0, hyy1, hyy2⟩ := info_parts info_int
  unfold Bd at hdb
  obtain ⟨hdb1, hdb2⟩ := hdb
  clear hp hs0 hs1 h2 f3 f4 f5 hx hcell hsol hso2 hgb hhb hgb' hhb' hbq hG hH hDD
  go_enter Tryd.func45, Tryd.ntmps45
  go_wp2_with fail
  obtain ⟨W0, hW0⟩ : ∃ W0, W0 = (w.alloc (.cells #[.slice (some ⟨b, off, none⟩) M.length c1, .slice (some ⟨bq, oq, none⟩) M.length c2] 31)).alloc (.cells #[.int .i64 0, .slice none 0 0, .slice none 0 0] 28) := ⟨_, rfl⟩
  have hb0 : Below w.heap.size w W0 := by rw [hW0]; exact ((Below.refl _ _).alloc (Nat.le_refl _) _).alloc (by simp) _
  have hz0 : W0.heap.size = w.heap.size + 2 := by rw [hW0]; simp
  have k1 : ∀ w', Below W0.heap.size W0 w' → w'.cell? ⟨w.heap.size, 0, none⟩ = some (.slice (some ⟨b, off, none⟩) M.length c1) := fun w' h => (h.cell (p := ⟨w.heap.size, 0, none⟩) (by show w.heap.size < _; omega)).trans (by rw [hW0]; simp [go_sem])
  have k2 : ∀ w', Below W0.heap.size W0 w' → w'.cell? ⟨w.heap.size, 1, none⟩ = some (.slice (some ⟨bq, oq, none⟩) M.length c2) := fun w' h => (h.cell (p := ⟨w.heap.size, 1, none⟩) (by show w.heap.size < _; omega)).trans (by rw [hW0]; simp [go_sem])
  have k4 : ∀ w', Below W0.heap.size W0 w' → w'.cell? ⟨w.heap.size + 1, 0, none⟩ = some (.int .i64 0) ∧ w'.cell? ⟨w.heap.size + 1, 1, none⟩ = some (.slice none 0 0) ∧ w'.cell? ⟨w.heap.size + 1, 2, none⟩ = some (.slice none 0 0) ∧ ∀ o, w'.frozen? ⟨w.heap.size + 1, o, none⟩ = false := fun w' h =>
    ⟨(h.cell (p := ⟨w.heap.size + 1, 0, none⟩) (by show w.heap.size + 1 < _; omega)).trans (by rw [hW0]; simp [go_sem]), (h.cell (p := ⟨w.heap.size + 1, 1, none⟩) (by show w.heap.size + 1 < _; omega)).trans (by rw [hW0]; simp [go_sem]), (h.cell (p := ⟨w.heap.size + 1, 2, none⟩) (by show w.heap.size + 1 < _; omega)).trans (by rw [hW0]; simp [go_sem]),
      fun o => (h.frozen (p := ⟨w.heap.size + 1, o, none⟩) (by show w.heap.size + 1 < _; omega)).trans (by rw [hW0]; simp [go_sem])⟩
  have k3 : ∀ w', Below W0.heap.size W0 w' → Below w.heap.size w w' := fun w' h => hb0.trans (h.mono hb0.size)
  have HK1 := Lib.hid k1
  have HZ0 := Lib.hid hz0
  have HK4 := Lib.hid k4
  rw [← hW0]
  clear hW0 k4 hz0
  go_region_held3 (fun w' => Below W0.heap.size W0 w') ((repeat' (first | (with_reducible exact Below.refl _ _) | (with_reducible assumption) | (with_reducible refine Below.alloc ?_ ?_ _) | (with_reducible refine Below.drew ?_) | (with_reducible refine below_drewN ?_ _) | (with_reducible refine Below.setCell ?_ ?_ _) | (with_reducible refine Below.trans ?_ (Below.mono (by with_reducible assumption) ?_)) | (with_reducible exact Below.size (by with_reducible assumption)) | go_size)))
    (first
      | (go_at_call 66; refine (l01Columns_any _ M s _ (g1 _ (k3 _ (by (repeat' (first | (with_reducible exact Below.refl _ _) | (with_reducible assumption) | (with_reducible refine Below.alloc ?_ ?_ _) | (with_reducible refine Below.drew ?_) | (with_reducible refine below_drewN ?_ _) | (with_reducible refine Below.setCell ?_ ?_ _) | (with_reducible refine Below.trans ?_ (Below.mono (by with_reducible assumption) ?_)) | (with_reducible exact Below.size (by with_reducible assumption)) | go_size))))) f1 f2 HRL.out HE.out).mono ?_; rintro e w3 ⟨g3, cap3, us3, rfl, hf3, hb3⟩; have HR3 := Lib.hid (hf3.own.rows' HI.out); clear hf3; have hS3 : Below W0.heap.size W0 w3 := (by (repeat' (first | (with_reducible exact Below.refl _ _) | (with_reducible assumption) | (with_reducible refine Below.alloc ?_ ?_ _) | (with_reducible refine Below.drew ?_) | (with_reducible refine below_drewN ?_ _) | (with_reducible refine Below.setCell ?_ ?_ _) | (with_reducible refine Below.trans ?_ (Below.mono (by with_reducible assumption) ?_)) | (with_reducible exact Below.size (by with_reducible assumption)) | go_size)))))
  have x1 := k2 _ hS3
  have HW3 := Lib.hid (k3 _ hS3)
  have HS3 := Lib.hid hS3
  clear k1 k2 hb3 hS3
  go_wp2_with fail
  refine (HS.out _ _ HR3.out HW3.out).mono ?_; rintro e w4 ⟨g4, c4, rfl, hf4, hb4⟩
  have hS4 := HS3.out.trans (hb4.mono HS3.out.size)
  have HS4 := Lib.hid hS4
  have HW4 := Lib.hid (k3 _ hS4)
  have HR4 := Lib.hid (HR3.out.below hb4)
  obtain ⟨_, _, hvv, _, hz5, hoo⟩ := id hf4
  have hg4 : g4 < w4.heap.size := by simp at hvv; omega
  have hce : ∀ j, j < M.length → w4.cell? ⟨g4, j, none⟩ = some (.int .i64 (G j)) := fun j hj => by
    rw [own_cellN hoo (row_length _ _).symm hj]
    simp [hj]
  have HC4 := Lib.hid hce
  have hz4 : w.heap.size + 2 ≤ w4.heap.size := by have := hS4.size; have := HZ0.out; omega
  have HK3 := Lib.hid k3
  clear hvv hz5 hoo hce hf4 hb4 hS4 x1 HS3 HW3 HR3 k3
  go_wp2_with fail
  go_loopw [12] (fun i wr => ∃ (k : Nat) (v q : Value) (us : List Value), k ≤ M.length ∧ i = .int .i64 k ∧ PvG w4.heap.size wr (w4.heap.size + 1 + 1) (D) v q (zTo M.length k) (sTo M Q s k) us ∧ Below w4.heap.size w4 wr) (fun i _ => M.length - (intOf i).toNat)
  case atStart => exact ⟨0, _, _, [], Nat.zero_le _, rfl, pvG_start w4 (D), (((Below.refl _ _).alloc (Nat.le_refl _) _).alloc (by simp) _).alloc (by simp; omega) _⟩
  case round =>
    obtain ⟨k, v, q, us, hk, rfl, hP, hB⟩ := hrel
    by_cases hlt : k < M.length
    · have t1 := (hB.cell (p := ⟨g4, k, none⟩) hg4).trans (HC4.out k hlt)
      have HP := Lib.hid hP
      have HB := Lib.hid hB
      have hN := hP.lt
      have HZ := Lib.hid (zeros_fresh wr M.length (by unfold maxLen; omega))
      have HOV := Lib.hid (fun W (h : Below wr.heap.size wr W) => hP.ownV h (zTo_length M.length k))
      have q1 : ∀ w', Below wr.heap.size wr w' → w'.cell? ⟨w4.heap.size + 1 + 1, 1, none⟩ = some v := fun w' h => (h.cell (p := ⟨w4.heap.size + 1 + 1, 1, none⟩) hN).trans hP.c1
      have qc1 := hP.c1
      have qa : ∀ X, (wr.alloc X).cell? ⟨w4.heap.size + 1 + 1, 1, none⟩ = some v := fun X => q1 _ ((Below.refl _ _).alloc (Nat.le_refl _) _)
      have qb : ∀ X Y, ((wr.alloc X).alloc Y).cell? ⟨w4.heap.size + 1 + 1, 1, none⟩ = some v := fun X Y => q1 _ (((Below.refl _ _).alloc (Nat.le_refl _) _).alloc (by simp) _)
      clear hP hB
      go_wp2_with fail
      go_region_law (first | (refine step_append_lies _ rfl _ _ 22 rfl 0 23 i0 (.slice none 0 0) 1 24 Tryd.underlying22 hi hzz0 hzz1 hzz2 rfl (by decide) v k us rfl (HOV.out _ (by (repeat' (first | (with_reducible exact Below.refl _ _) | (with_reducible assumption) | (with_reducible refine Below.alloc ?_ ?_ _) | (with_reducible refine Below.drew ?_) | (with_reducible refine below_drewN ?_ _) | (with_reducible refine Below.setCell ?_ ?_ _) | (with_reducible refine Below.trans ?_ (Below.mono (by with_reducible assumption) ?_)) | (with_reducible exact Below.size (by with_reducible assumption)) | go_size)))) _ 1 _ [.slice (some ⟨wr.heap.size, 0, none⟩) M.length M.length] rfl rfl (cell_one_at (by simp)) (by simp [Value.oneCell']) (by decide) (by unfold maxLen; omega) (by omega) (Nat.zero_le _) _ rfl ?_; intro g5 cap5 w5 hown hgrow hat hlt5; obtain ⟨hs5, hcN, hfN⟩ := HP.out.far (by (repeat' (first | (with_reducible exact Below.refl _ _) | (with_reducible assumption) | (with_reducible refine Below.alloc ?_ ?_ _) | (with_reducible refine Below.drew ?_) | (with_reducible refine below_drewN ?_ _) | (with_reducible refine Below.setCell ?_ ?_ _) | (with_reducible refine Below.trans ?_ (Below.mono (by with_reducible assumption) ?_)) | (with_reducible exact Below.size (by with_reducible assumption)) | go_size))) hgrow HP.out.vN; have hcN1 := (hcN 1).trans HP.out.c1; have hfN1 := hfN 1; have hP5 := HP.out.rowF (by (repeat' (first | (with_reducible exact Below.refl _ _) | (with_reducible assumption) | (with_reducible refine Below.alloc ?_ ?_ _) | (with_reducible refine Below.drew ?_) | (with_reducible refine below_drewN ?_ _) | (with_reducible refine Below.setCell ?_ ?_ _) | (with_reducible refine Below.trans ?_ (Below.mono (by with_reducible assumption) ?_)) | (with_reducible exact Below.size (by with_reducible assumption)) | go_size))) (HZ.out.below (by (repeat' (first | (with_reducible exact Below.refl _ _) | (with_reducible assumption) | (with_reducible refine Below.alloc ?_ ?_ _) | (with_reducible refine Below.drew ?_) | (with_reducible refine below_drewN ?_ _) | (with_reducible refine Below.setCell ?_ ?_ _) | (with_reducible refine Below.trans ?_ (Below.mono (by with_reducible assumption) ?_)) | (with_reducible exact Below.size (by with_reducible assumption)) | go_size)))) (Nat.le_refl _) (zTo_length M.length k) hown hgrow hat; have hB5 := pvG_low (o := 1) (y := .slice (some ⟨g5, 0, none⟩) (k + 1) cap5) HB.out (by omega) hN (by (repeat' (first | (with_reducible exact Below.refl _ _) | (with_reducible assumption) | (with_reducible refine Below.alloc ?_ ?_ _) | (with_reducible refine Below.drew ?_) | (with_reducible refine below_drewN ?_ _) | (with_reducible refine Below.setCell ?_ ?_ _) | (with_reducible refine Below.trans ?_ (Below.mono (by with_reducible assumption) ?_)) | (with_reducible exact Below.size (by with_reducible assumption)) | go_size))) hgrow (fun b hb => (HP.out.rows.mb b hb).1); have HP5 := Lib.hid hP5; have HB5 := Lib.hid hB5; clear hP5 hB5 hown hgrow hat hcN hfN))
      all_goals
        obtain ⟨W6, hW6⟩ : ∃ W6, W6 = w5.setCell ⟨w4.heap.size + 1 + 1, 1, none⟩ (.slice (some ⟨g5, 0, none⟩) (k + 1) cap5) := ⟨_, rfl⟩
        have hP6 := HP5.out
        have hB6 := HB5.out
        rw [← zTo_succ] at hP6
        rw [← hW6] at hP6 hB6 ⊢
        clear hW6 HP5 HB5 hcN1 hfN1 hlt5 hs5 HOV q1 qc1 qa qb HZ HP HB hN t1
        have t6 := (hB6.cell (p := ⟨g4, k, none⟩) hg4).trans (HC4.out k hlt)
        have p62 := hP6.c2
        have z62 := hP6.nf 2
        have hN6 := hP6.lt
        have HSS := Lib.hid (sTo_succ M Q s k)
        have hgb := HGB.out k
        have HPSK := Lib.hid (HPS.out k)
        unfold Bd at hgb
        obtain ⟨hgb1, hgb2⟩ := hgb
        have HOQ := Lib.hid (fun W (h : Below W6.heap.size W6 W) => hP6.ownQ h (sTo_length M Q s k))
        have HP6 := Lib.hid hP6
        have HB6 := Lib.hid hB6
        clear hP6 hB6
        generalize G k = Y at *
        have hwr : IntKind.i64.wrap (Y) = (Y) := IntWalk.i64_in _ (by omega)
        go_wp2_with fail
        go_region_law (first | (refine step_append_lies _ rfl _ _ 23 rfl 0 2 j0 (.int .i64 0) 1 8 Tryd.underlying23 hj hyy0 hyy1 hyy2 rfl (by decide) q k ((sTo M Q s k).map (Value.int .i64)) rfl (HOQ.out _ (by (repeat' (first | (with_reducible exact Below.refl _ _) | (with_reducible assumption) | (with_reducible refine Below.alloc ?_ ?_ _) | (with_reducible refine Below.drew ?_) | (with_reducible refine below_drewN ?_ _) | (with_reducible refine Below.setCell ?_ ?_ _) | (with_reducible refine Below.trans ?_ (Below.mono (by with_reducible assumption) ?_)) | (with_reducible exact Below.size (by with_reducible assumption)) | go_size)))) _ 1 _ [.int .i64 (Y)] rfl rfl (cell_one_new _ _ _) (by simp [Value.oneCell']) (by decide) (by unfold maxLen; omega) (by omega) (Nat.zero_le _) _ rfl ?_; intro g7 cap7 w7 hown hgrow hat hlt7; obtain ⟨hs7, hcN, hfN⟩ := HP6.out.far (by (repeat' (first | (with_reducible exact Below.refl _ _) | (with_reducible assumption) | (with_reducible refine Below.alloc ?_ ?_ _) | (with_reducible refine Below.drew ?_) | (with_reducible refine below_drewN ?_ _) | (with_reducible refine Below.setCell ?_ ?_ _) | (with_reducible refine Below.trans ?_ (Below.mono (by with_reducible assumption) ?_)) | (with_reducible exact Below.size (by with_reducible assumption)) | go_size))) hgrow HP6.out.qN; have hcN2 := (hcN 2).trans HP6.out.c2; have hfN2 := hfN 2; have hP7 := HP6.out.numF (by (repeat' (first | (with_reducible exact Below.refl _ _) | (with_reducible assumption) | (with_reducible refine Below.alloc ?_ ?_ _) | (with_reducible refine Below.drew ?_) | (with_reducible refine below_drewN ?_ _) | (with_reducible refine Below.setCell ?_ ?_ _) | (with_reducible refine Below.trans ?_ (Below.mono (by with_reducible assumption) ?_)) | (with_reducible exact Below.size (by with_reducible assumption)) | go_size))) (sTo_length M Q s k) hown hgrow hat hlt7; rw [← HPSK.out, ← HSS.out] at hP7; have hB7 := pvG_low (o := 2) (y := .slice (some ⟨g7, 0, none⟩) (k + 1) cap7) HB6.out (by omega) hN6 (by (repeat' (first | (with_reducible exact Below.refl _ _) | (with_reducible assumption) | (with_reducible refine Below.alloc ?_ ?_ _) | (with_reducible refine Below.drew ?_) | (with_reducible refine below_drewN ?_ _) | (with_reducible refine Below.setCell ?_ ?_ _) | (with_reducible refine Below.trans ?_ (Below.mono (by with_reducible assumption) ?_)) | (with_reducible exact Below.size (by with_reducible assumption)) | go_size))) hgrow (fun b hb => (HP6.out.qb b hb).1); have HP7 := Lib.hid hP7; have HB7 := Lib.hid hB7; clear hP7 hB7 hown hgrow hat hcN hfN))
        all_goals
          go_wp2_with fail
          go_roundw
          case rel => exact ⟨k + 1, _, _, _, by omega, by go_num, HP7.out, HB7.out⟩
          case measure => simp [intOf]; omega
    · obtain rfl : k = M.length := by omega
      obtain ⟨gv, cv, rfl⟩ := hP.top1 (zTo_length _ _) f1
      obtain ⟨gq, cq, rfl⟩ := hP.side1 (sTo_length M Q s _) f1
      rw [zTo_all M s] at hP
      have HPA := Lib.hid hP
      have HBA := Lib.hid hB
      obtain ⟨W1, rfl⟩ : ∃ W1, W1 = wr := ⟨_, rfl⟩
      clear hP hB
      go_wp2_with fail
      go_loopw [13, 14, 15, 16, 17, 18, 19] (fun i _ _ _ _ _ _ wr => ∃ k : Nat, k ≤ M.length ∧ i = .int .i64 k ∧ PvG w4.heap.size wr (w4.heap.size + 1 + 1) (D) (.slice (some ⟨gv, 0, none⟩) M.length cv) (.slice (some ⟨gq, 0, none⟩) M.length cq) (tab M.length (fKp M s k 0)) (sTo M Q s M.length) us ∧ Below w4.heap.size w4 wr) (fun i _ _ _ _ _ _ _ => M.length - (intOf i).toNat)
      case atStart => exact ⟨0, Nat.zero_le _, rfl, HPA.out, HBA.out⟩
      case round =>
        obtain ⟨k, hk, rfl, hP, hB⟩ := hrel
        by_cases hlt : k < M.length
        · have HP := Lib.hid hP
          have HB := Lib.hid hB
          have HZ := Lib.hid (zeros_fresh wr M.length (by unfold maxLen; omega))
          have hzr := hB.size
          obtain ⟨W2, rfl⟩ : ∃ W2, W2 = wr := ⟨_, rfl⟩
          clear hP hB HPA HBA
          obtain ⟨W0', hW0'⟩ : ∃ W0', W0' = W2 := ⟨_, rfl⟩
          have kb1 : ∀ w', Below W2.heap.size W2 w' → w'.cell? ⟨w.heap.size, 0, none⟩ = some (.slice (some ⟨b, off, none⟩) M.length c1) := fun w' h => HK1.out w' (HS4.out.trans ((HB.out.trans (h.mono hzr)).mono HS4.out.size))
          have hz40 : w4.heap.size ≤ W2.heap.size := hzr
          have hwb : w.heap.size + 2 ≤ w4.heap.size := hz4
          clear hW0' 
          have HKB := Lib.hid kb1
          clear kb1
          -- the right side
          have HSUM : Hid (∀ j wr, j < M.length → Below W2.heap.size W2 wr → ∃ bk ok ck, wr.cell? ⟨b, off + j, none⟩ = some (.slice (some ⟨bk, ok, none⟩) M.length ck) ∧ wr.cell? ⟨bk, ok + k, none⟩ = some (.int .i64 (ent M j k))) := Lib.hid (fun j wr hj h => by
            have hBw : Below w.heap.size w wr := HW4.out.trans ((HB.out.trans (h.mono hzr)).mono HW4.out.size)
            obtain ⟨u, c3, hIr⟩ := HCE.out j hj
            have hrk := HRL.out j hj
            obtain ⟨ak, ck, rfl, _, _, _, hxk⟩ := hIr
            obtain ⟨bk, ok, rfl, hbk, hck⟩ : ∃ b off, ak = some ⟨b, off, none⟩ ∧ b < w.heap.size ∧ CellsAt w b off (M.getD j []) := by
              rcases hxk with hx | hx
              · rw [hx] at hrk; simp at hrk; omega
              · exact hx
            refine ⟨bk, ok, ck, ?_, ?_⟩
            · rw [← hrk]; exact (hBw.cell (p := ⟨b, off + j, none⟩) hblt).trans c3
            · exact (hBw.cell (p := ⟨bk, ok + k, none⟩) hbk).trans (hck k (by omega)))
          rcases HBC.out k with ⟨hbt, hbf⟩ | ⟨hbt, hbf⟩
          · have HBF := Lib.hid hbf
            clear hbf
            go_wp2_with fail
            go_loopw [15] (fun i wr => ∃ j : Nat, j ≤ M.length ∧ i = .int .i64 j ∧ FreshI W2.heap.size wr (.slice (some ⟨W2.heap.size, 0, none⟩) M.length M.length) ((List.range M.length).map (ouL M s k j)) ∧ Below W2.heap.size W2 wr) (fun i _ => M.length - (intOf i).toNat)
            case atStart => exact ⟨0, Nat.zero_le _, rfl, by rw [ouL_zero]; exact HZ.out, (Below.refl _ _).alloc (Nat.le_refl _) _⟩
            case round =>
              obtain ⟨j, hj2, rfl, hF, hB2⟩ := hrel
              by_cases hltj : j < M.length
              · obtain ⟨bk, ok, ck, r1, r2⟩ := HSUM.out j wr hltj hB2
                have r0 := HKB.out wr hB2
                have hst := hF.set j (ent M j k)
                rw [ouL_set _ _ HBF.out] at hst
                have HST := Lib.hid hst
                have HBS := Lib.hid (hB2.setCell (p := ⟨W2.heap.size, j, none⟩) (Nat.le_refl _) (.int .i64 (ent M j k)))
                obtain ⟨_, _, hvv, _, hlt', ho⟩ := hF
                have e6 := own_cellN ho (row_length _ _).symm hltj
                have e7 := own_frozenN ho (row_length _ _).symm j
                clear hst ho hvv hB2
                generalize ent M j k = X at *
                generalize ((List.range M.length).map (ouL M s k j)).getD j 0 = X2 at *
                go_wp2_with fail
                go_roundw
                case rel => exact ⟨j + 1, by omega, by go_num, HST.out, HBS.out⟩
                case measure => simp [intOf]; omega
              · obtain rfl : j = M.length := by omega
                rw [ouL_out HBF.out] at hF
                have HF := Lib.hid hF
                have HB2 := Lib.hid hB2
                obtain ⟨W3, rfl⟩ : ∃ W3, W3 = wr := ⟨_, rfl⟩
                clear hF hB2
                go_wp2_with fail
                obtain ⟨_, _, hvv, _, hlt', ho⟩ := id HF.out
                refine (HS2.out k _ _ _ (HR4.out.below (HB.out.trans (HB2.out.mono hzr))) (by have := OwnI.ints (v := .slice (some ⟨W2.heap.size, 0, none⟩) M.length M.length) ho (HOI.out k); exact this)).mono ?_; rintro e w5 ⟨g7, c7, rfl, hf7, hb7⟩
                have h05 := HB.out.trans ((HB2.out.trans (hb7.mono HB2.out.size)).mono hzr)
                have hP5 := HP.out.below (HB2.out.trans (hb7.mono HB2.out.size))
                obtain ⟨_, _, hv7, hg7, _, ho7⟩ := id hf7
                have hg7' : W2.heap.size ≤ g7 := by have := HB2.out.size; simp at hv7; omega
                have hce7 : ∀ j, j < M.length → w5.cell? ⟨g7, j, none⟩ = some (.int .i64 (H k j)) := fun j hj => by
                  rw [own_cellN ho7 (row_length _ _).symm hj]
                  simp [hj]
                have HP5 := Lib.hid hP5
                have H05 := Lib.hid h05
                have HC7 := Lib.hid hce7
                have hlow := HP.out.rows.ub
                have HUB := Lib.hid (show ∀ i, i < M.length → ∀ gi ci, us.getD i undef = .slice (some ⟨gi, 0, none⟩) M.length ci → gi < W2.heap.size from fun i hi gi ci hu => (hlow i gi (by rw [tab_length]; exact hi) (by rw [hu]; rfl)).2)
                clear hlow hP5 h05 hce7 hv7 hg7 ho7 hf7 hb7 ho hvv hlt'
                go_wp2_with fail
                go_loopw [18, 19] (fun i _ wr => ∃ a : Nat, a ≤ M.length ∧ i = .int .i64 a ∧ PvG w4.heap.size wr (w4.heap.size + 1 + 1) (D) (.slice (some ⟨gv, 0, none⟩) M.length cv) (.slice (some ⟨gq, 0, none⟩) M.length cq) (tab M.length (fKp M s k a)) (sTo M Q s M.length) us ∧ Below w4.heap.size w4 wr ∧ ∀ j, j < M.length → wr.cell? ⟨g7, j, none⟩ = some (.int .i64 (H k j))) (fun i _ _ => M.length - (intOf i).toNat)
                case atStart => exact ⟨0, Nat.zero_le _, rfl, HP5.out, H05.out, HC7.out⟩
                case round =>
                  obtain ⟨a, ha, rfl, hP6, hB6, hC6⟩ := hrel
                  by_cases hlta : a < M.length
                  · obtain ⟨gi, ci, hu, p1, p2, hgi, hgl⟩ := hP6.at hlta
                    obtain ⟨p3, p4⟩ := p2 k hlt
                    have p5 := hP6.c1
                    have p6 := hC6 a hlta
                    have hgu := HUB.out a hlta gi ci hu
                    have hne : g7 ≠ gi := by omega
                    have hst := (hP6.ent (k := k) hlta hu (H k a)).congr (f' := fKp M s k (a + 1)) (fun x y _ _ => by rw [← HPR.out a k]; exact fKp_step M s k a x y)
                    have hbs := hB6.setCell (p := ⟨gi, k, none⟩) hgi (.int .i64 (H k a))
                    have hcs : ∀ j, j < M.length → (wr.setCell ⟨gi, k, none⟩ (.int .i64 (H k a))).cell? ⟨g7, j, none⟩ = some (.int .i64 (H k j)) := fun j hj => by rw [World.cell?_setCell_far _ _ _ _ hne.symm]; exact hC6 j hj
                    have HST := Lib.hid hst
                    have HBS := Lib.hid hbs
                    have HCS := Lib.hid hcs
                    have hhb := HHB.out k a
                    unfold Bd at hhb
                    obtain ⟨hhb1, hhb2⟩ := hhb
                    clear hst hbs hcs hP6 hB6 hC6 p2 hu
                    generalize H k a = Y at *
                    generalize fKp M s k a a k = X at *
                    have hwr : IntKind.i64.wrap (Y) = (Y) := IntWalk.i64_in _ (by omega)
                    go_wp2_with fail
                    go_roundw
                    case rel => exact ⟨a + 1, by omega, by go_num, HST.out, HBS.out, HCS.out⟩
                    case measure => simp [intOf]; omega
                  · obtain rfl : a = M.length := by omega
                    have HPE := Lib.hid (hP6.congr (fun x y hx _ => fKp_next (M := M) (s := s) (k := k) y hx))
                    have HBE := Lib.hid hB6
                    clear hP6 hB6 hC6
                    go_wp2_with fail
                    go_roundw
                    case rel => exact ⟨k + 1, by omega, by go_num, HPE.out, HBE.out⟩
                    case measure => simp [intOf]; omega
          · have HBF := Lib.hid hbf
            clear hbf
            go_wp2_with fail
            go_loopw [15] (fun i wr => ∃ j : Nat, j ≤ M.length ∧ i = .int .i64 j ∧ FreshI W2.heap.size wr (.slice (some ⟨W2.heap.size, 0, none⟩) M.length M.length) ((List.range M.length).map (ouL M s k j)) ∧ Below W2.heap.size W2 wr) (fun i _ => M.length - (intOf i).toNat)
            case atStart => exact ⟨0, Nat.zero_le _, rfl, by rw [ouL_zero]; exact HZ.out, (Below.refl _ _).alloc (Nat.le_refl _) _⟩
            case round =>
              obtain ⟨j, hj2, rfl, hF, hB2⟩ := hrel
              by_cases hltj : j < M.length
              · have HST := Lib.hid (by rw [ouL_skip M.length j HBF.out] at hF; exact hF : FreshI W2.heap.size wr (.slice (some ⟨W2.heap.size, 0, none⟩) M.length M.length) ((List.range M.length).map (ouL M s k (j + 1))))
                have HBS := Lib.hid hB2
                clear hF hB2
                go_wp2_with fail
                go_roundw
                case rel => exact ⟨j + 1, by omega, by go_num, HST.out, HBS.out⟩
                case measure => simp [intOf]; omega
              · obtain rfl : j = M.length := by omega
                have hst := hF.set k (-1)
                rw [ouL_in HBF.out] at hst
                have HF := Lib.hid hst
                have HB2 := Lib.hid (hB2.setCell (p := ⟨W2.heap.size, k, none⟩) (Nat.le_refl _) (.int .i64 (-1)))
                obtain ⟨_, _, hvv, _, hlt', ho⟩ := hF
                have e6 := own_cellN ho (row_length _ _).symm hlt
                have e7 := own_frozenN ho (row_length _ _).symm k
                clear hst ho hvv hB2
                generalize ((List.range M.length).map (ouL M s k M.length)).getD k 0 = X2 at *
                obtain ⟨W3, hW3⟩ : ∃ W3, W3 = wr.setCell ⟨W2.heap.size, k, none⟩ (.int .i64 (-1)) := ⟨_, rfl⟩
                rw [← hW3] at HF HB2
                have HW3 := Lib.hid hW3
                clear hW3
                go_wp2_with fail
                rw [← HW3.out]
                obtain ⟨_, _, hvv, _, hlt', ho⟩ := id HF.out
                refine (HS2.out k _ _ _ (HR4.out.below (HB.out.trans (HB2.out.mono hzr))) (by have := OwnI.ints (v := .slice (some ⟨W2.heap.size, 0, none⟩) M.length M.length) ho (HOI.out k); exact this)).mono ?_; rintro e w5 ⟨g7, c7, rfl, hf7, hb7⟩
                have h05 := HB.out.trans ((HB2.out.trans (hb7.mono HB2.out.size)).mono hzr)
                have hP5 := HP.out.below (HB2.out.trans (hb7.mono HB2.out.size))
                obtain ⟨_, _, hv7, hg7, _, ho7⟩ := id hf7
                have hg7' : W2.heap.size ≤ g7 := by have := HB2.out.size; simp at hv7; omega
                have hce7 : ∀ j, j < M.length → w5.cell? ⟨g7, j, none⟩ = some (.int .i64 (H k j)) := fun j hj => by
                  rw [own_cellN ho7 (row_length _ _).symm hj]
                  simp [hj]
                have HP5 := Lib.hid hP5
                have H05 := Lib.hid h05
                have HC7 := Lib.hid hce7
                have hlow := HP.out.rows.ub
                have HUB := Lib.hid (show ∀ i, i < M.length → ∀ gi ci, us.getD i undef = .slice (some ⟨gi, 0, none⟩) M.length ci → gi < W2.heap.size from fun i hi gi ci hu => (hlow i gi (by rw [tab_length]; exact hi) (by rw [hu]; rfl)).2)
                clear hlow hP5 h05 hce7 hv7 hg7 ho7 hf7 hb7 ho hvv hlt'
                go_wp2_with fail
                go_loopw [18, 19] (fun i _ wr => ∃ a : Nat, a ≤ M.length ∧ i = .int .i64 a ∧ PvG w4.heap.size wr (w4.heap.size + 1 + 1) (D) (.slice (some ⟨gv, 0, none⟩) M.length cv) (.slice (some ⟨gq, 0, none⟩) M.length cq) (tab M.length (fKp M s k a)) (sTo M Q s M.length) us ∧ Below w4.heap.size w4 wr ∧ ∀ j, j < M.length → wr.cell? ⟨g7, j, none⟩ = some (.int .i64 (H k j))) (fun i _ _ => M.length - (intOf i).toNat)
                case atStart => exact ⟨0, Nat.zero_le _, rfl, HP5.out, H05.out, HC7.out⟩
                case round =>
                  obtain ⟨a, ha, rfl, hP6, hB6, hC6⟩ := hrel
                  by_cases hlta : a < M.length
                  · obtain ⟨gi, ci, hu, p1, p2, hgi, hgl⟩ := hP6.at hlta
                    obtain ⟨p3, p4⟩ := p2 k hlt
                    have p5 := hP6.c1
                    have p6 := hC6 a hlta
                    have hgu := HUB.out a hlta gi ci hu
                    have hne : g7 ≠ gi := by omega
                    have hst := (hP6.ent (k := k) hlta hu (H k a)).congr (f' := fKp M s k (a + 1)) (fun x y _ _ => by rw [← HPR.out a k]; exact fKp_step M s k a x y)
                    have hbs := hB6.setCell (p := ⟨gi, k, none⟩) hgi (.int .i64 (H k a))
                    have hcs : ∀ j, j < M.length → (wr.setCell ⟨gi, k, none⟩ (.int .i64 (H k a))).cell? ⟨g7, j, none⟩ = some (.int .i64 (H k j)) := fun j hj => by rw [World.cell?_setCell_far _ _ _ _ hne.symm]; exact hC6 j hj
                    have HST := Lib.hid hst
                    have HBS := Lib.hid hbs
                    have HCS := Lib.hid hcs
                    have hhb := HHB.out k a
                    unfold Bd at hhb
                    obtain ⟨hhb1, hhb2⟩ := hhb
                    clear hst hbs hcs hP6 hB6 hC6 p2 hu
                    generalize H k a = Y at *
                    generalize fKp M s k a a k = X at *
                    have hwr : IntKind.i64.wrap (Y) = (Y) := IntWalk.i64_in _ (by omega)
                    go_wp2_with fail
                    go_roundw
                    case rel => exact ⟨a + 1, by omega, by go_num, HST.out, HBS.out, HCS.out⟩
                    case measure => simp [intOf]; omega
                  · obtain rfl : a = M.length := by omega
                    have HPE := Lib.hid (hP6.congr (fun x y hx _ => fKp_next (M := M) (s := s) (k := k) y hx))
                    have HBE := Lib.hid hB6
                    clear hP6 hB6 hC6
                    go_wp2_with fail
                    go_roundw
                    case rel => exact ⟨k + 1, by omega, by go_num, HPE.out, HBE.out⟩
                    case measure => simp [intOf]; omega
        · obtain rfl : k = M.length := by omega
          have e0 := hP.c0
          have e1 := hP.c1
          have e2 := hP.c2
          obtain ⟨m0, m1, m2, m3⟩ := HK4.out wr (HS4.out.trans (hB.mono HS4.out.size))
          have hwr2 := hB.size
          have HP := Lib.hid (hP.congr (fun a b _ hb => fKp_end (M := M) (s := s) a hb)).m
          have HB := Lib.hid (HW4.out.trans (hB.mono HW4.out.size))
          clear hP hB HPA HBA
          go_wp2_with fail
          refine bodyPost_ret (v := .tuple #[.agg #[.int .i64 (D), .slice (some ⟨gv, 0, none⟩) M.length cv, .slice (some ⟨gq, 0, none⟩) M.length cq], .bool true]) (by simp [*, results, Tryd.results45, go_sem]) rfl ?_
          have ht : Tch [w.heap.size + 1] wr (((wr.setCell ⟨w.heap.size + 1, 0, none⟩ (.int .i64 (D))).setCell ⟨w.heap.size + 1, 1, none⟩ (.slice (some ⟨gv, 0, none⟩) M.length cv)).setCell ⟨w.heap.size + 1, 2, none⟩ (.slice (some ⟨gq, 0, none⟩) M.length cq)) := (((Tch.refl _ _).setCell (by simp) _).setCell (by simp) _).setCell (by simp) _
          exact ⟨_, cv, _, cq, us, by rw [HPD.out], (HP.out.old ht (fun b hb => by simp at hb; omega)).mono (by omega), HB.out.trans (ht.below (fun b hb => by simp at hb; omega))⟩
set_option maxRecDepth 100000 in
set_option maxHeartbeats 8000000 in
theorem l04Pivot_neg (m q : Value) (M : List (List Int)) (Q : List Int) (s : Int) (w : World) (h1 : PM.Rows w m M) (h2 : Ints w q Q) (hp : isPB M Q = true) (hs0 : 0 ≤ s) (hs1 : s < 2 ^ M.length) (hsg : dt M.length (colS M s) < 0) :
    Calls Tryd.prog 45 #[.agg #[m, q], .int .i64 s] w fun e w' => ∃ a c a' c' us, e = .returned (.tuple #[.agg #[.int .i64 (pvD M s), .slice a M.length c, .slice a' M.length c'], .bool true]) ∧
      PvM w.heap.size w' (.slice a M.length c) (.slice a' M.length c') (tab M.length (pvR M s)) ((List.range M.length).map (pvS M Q s)) us ∧ Below w.heap.size w w' := by
  have g1 := fun (w' : World) (h : Below w.heap.size w w') => h1.below h
  have g2 := fun (w' : World) (h : Below w.heap.size w w') => h2.below h
  obtain ⟨f1, f2, f3, f4, f5⟩ := isPB_facts hp
  obtain ⟨a1, c1, rfl, _, _, hx⟩ := h1
  obtain ⟨b, off, rfl, hblt, hcell⟩ : ∃ b off, a1 = some ⟨b, off, none⟩ ∧ b < w.heap.size ∧ ∀ i, i < M.length → ∃ u, w.cell? ⟨b, off + i, none⟩ = some u ∧ Ints w u (M.getD i []) := by
    rcases hx with hx | hx
    · rw [hx] at f1; simp at f1
    · exact hx
  obtain ⟨bq, oq, c2, rfl, _, _⟩ := ints_at h2 f3 f1
  have HCE := Lib.hid hcell
  have HRL := Lib.hid (fun j hj => (f4 j hj).1)
  have HE := Lib.hid (ent_bd hp)
  have HI := Lib.hid (tab_I64 (n := M.length) (g := colS M s) (B := 20) (by decide) (fun i j _ _ => colS_all hp s i j))
  obtain ⟨D, hDD⟩ : ∃ D, D = dt M.length (colS M s) := ⟨_, rfl⟩
  obtain ⟨G, hG⟩ : ∃ G : Nat → Int, G = fun j => dt M.length (setCol (colS M s) j Q) := ⟨_, rfl⟩
  obtain ⟨H, hH⟩ : ∃ H : Nat → Nat → Int, H = fun k j => dt M.length (setCol (colS M s) j (outL M s k)) := ⟨_, rfl⟩
  have hbq : ∀ j, Bd 100 (Q.getD j 0) := fun j => isPB_q hp j
  have hsol := fun (v : Value) (w' : World) (h : PM.Rows w' v (tab M.length (colS M s))) (hb : Below w.heap.size w w') => l01Solve_any v _ M.length (colS M s) Q w' h (g2 w' hb) f3 f1 f2 (fun i j => (colS_all hp s i j).mono (by decide)) hbq
  have hso2 := fun (k : Nat) (v u : Value) (w' : World) (h : PM.Rows w' v (tab M.length (colS M s))) (hu : Ints w' u (outL M s k)) => l01Solve_any v u M.length (colS M s) (outL M s k) w' h hu (outL_length M s k) f1 f2 (fun i j => (colS_all hp s i j).mono (by decide)) (fun j => (outLP_bd hp s k j).mono (by decide))
  have hgb := fun j => pv_dtS hp s j
  have hhb := fun k j => pv_dtR hp s j k
  have hdb := pv_dtD hp s
  have hgb' : ∀ j, Bd 1920000000 (G j) := fun j => by rw [hG]; exact hgb j
  have hhb' : ∀ k j, Bd 1920000000 (H k j) := fun k j => by rw [hH]; exact hhb k j
  have HPD : Hid (pvD M s = (-(D))) := Lib.hid (by unfold pvD sgD; rw [if_pos (by omega), ← hDD, Int.neg_one_mul])
  have HPS : Hid (∀ i, pvS M Q s i = (-(G i))) := Lib.hid (fun i => by unfold pvS sgD; rw [if_pos (by omega), hG, Int.neg_one_mul])
  have HPR : Hid (∀ i k, pvR M s i k = (-(H k i))) := Lib.hid (fun i k => by unfold pvR sgD; rw [if_pos (by omega), hH, Int.neg_one_mul])
  rw [← hDD] at hsol hso2 hdb hsg
  have HS : Hid (∀ (v : Value) (w' : World), PM.Rows w' v (tab M.length (colS M s)) → Below w.heap.size w w' → Calls Tryd.prog 72 #[v, .slice (some ⟨bq, oq, none⟩) M.length c2] w' fun r w2 => ∃ g c, r = .returned (.tuple #[.slice (some ⟨g, 0, none⟩) M.length c, .int .i64 D]) ∧ FreshI w'.heap.size w2 (.slice (some ⟨g, 0, none⟩) M.length c) ((List.range M.length).map G) ∧ Below w'.heap.size w' w2) := Lib.hid (by rw [hG]; exact hsol)
  have HS2 : Hid (∀ (k : Nat) (v u : Value) (w' : World), PM.Rows w' v (tab M.length (colS M s)) → Ints w' u (outL M s k) → Calls Tryd.prog 72 #[v, u] w' fun r w2 => ∃ g c, r = .returned (.tuple #[.slice (some ⟨g, 0, none⟩) M.length c, .int .i64 D]) ∧ FreshI w'.heap.size w2 (.slice (some ⟨g, 0, none⟩) M.length c) ((List.range M.length).map (H k)) ∧ Below w'.heap.size w' w2) := Lib.hid (by rw [hH]; exact hso2)
  have HGB := Lib.hid hgb'
  have HHB := Lib.hid hhb'
  have HOI := Lib.hid (fun k => outL_I64 hp s k)
  have HQL := Lib.hid f3
  have HBC := Lib.hid (fun k => bit_casesP hs0 (Int.lt_of_lt_of_le hs1 (powP_32 f2)) k)
  have hsD : D < 0 := by omega
  have hDn : (D == 0) = false := by rw [beq_eq_false_iff_ne]; omega
  have hmk := run_make_row' (P := Tryd.prog) 23 2 (.int .i64 0) 8 Tryd.underlying23 info_int rfl .i64 .i64 M.length (by omega) (by omega)
  obtain ⟨i0, hi, hzz0, hzz1, hzz2⟩ := info_parts info_ints
  obtain ⟨j0, hj, hyy0, hyy1, hyy2⟩ := info_parts info_int
  unfold Bd at hdb
  obtain ⟨hdb1, hdb2⟩ := hdb
  clear hp hs0 hs1 h2 f3 f4 f5 hx hcell hsol hso2 hgb hhb hgb' hhb' hbq hG hH hDD
  go_enter Tryd.func45, Tryd.ntmps45
  go_wp2_with fail
  obtain ⟨W0, hW0⟩ : ∃ W0, W0 = (w.alloc (.cells #[.slice (some ⟨b, off, none⟩) M.length c1, .slice (some ⟨bq, oq, none⟩) M.length c2] 31)).alloc (.cells #[.int .i64 0, .slice none 0 0, .slice none 0 0] 28) := ⟨_, rfl⟩
  have hb0 : Below w.heap.size w W0 := by rw [hW0]; exact ((Below.refl _ _).alloc (Nat.le_refl _) _).alloc (by simp) _
  have hz0 : W0.heap.size = w.heap.size + 2 := by rw [hW0]; simp
  have k1 : ∀ w', Below W0.heap.size W0 w' → w'.cell? ⟨w.heap.size, 0, none⟩ = some (.slice (some ⟨b, off, none⟩) M.length c1) := fun w' h => (h.cell (p := ⟨w.heap.size, 0, none⟩) (by show w.heap.size < _; omega)).trans (by rw [hW0]; simp [go_sem])
  have k2 : ∀ w', Below W0.heap.size W0 w' → w'.cell? ⟨w.heap.size, 1, none⟩ = some (.slice (some ⟨bq, oq, none⟩) M.length c2) := fun w' h => (h.cell (p := ⟨w.heap.size, 1, none⟩) (by show w.heap.size < _; omega)).trans (by rw [hW0]; simp [go_sem])
  have k4 : ∀ w', Below W0.heap.size W0 w' → w'.cell? ⟨w.heap.size + 1, 0, none⟩ = some (.int .i64 0) ∧ w'.cell? ⟨w.heap.size + 1, 1, none⟩ = some (.slice none 0 0) ∧ w'.cell? ⟨w.heap.size + 1, 2, none⟩ = some (.slice none 0 0) ∧ ∀ o, w'.frozen? ⟨w.heap.size + 1, o, none⟩ = false := fun w' h =>
    ⟨(h.cell (p := ⟨w.heap.size + 1, 0, none⟩) (by show w.heap.size + 1 < _; omega)).trans (by rw [hW0]; simp [go_sem]), (h.cell (p := ⟨w.heap.size + 1, 1, none⟩) (by show w.heap.size + 1 < _; omega)).trans (by rw [hW0]; simp [go_sem]), (h.cell (p := ⟨w.heap.size + 1, 2, none⟩) (by show w.heap.size + 1 < _; omega)).trans (by rw [hW0]; simp [go_sem]),
      fun o => (h.frozen (p := ⟨w.heap.size + 1, o, none⟩) (by show w.heap.size + 1 < _; omega)).trans (by rw [hW0]; simp [go_sem])⟩
  have k3 : ∀ w', Below W0.heap.size W0 w' → Below w.heap.size w w' := fun w' h => hb0.trans (h.mono hb0.size)
  have HK1 := Lib.hid k1
  have HZ0 := Lib.hid hz0
  have HK4 := Lib.hid k4
  rw [← hW0]
  clear hW0 k4 hz0
  go_region_held3 (fun w' => Below W0.heap.size W0 w') ((repeat' (first | (with_reducible exact Below.refl _ _) | (with_reducible assumption) | (with_reducible refine Below.alloc ?_ ?_ _) | (with_reducible refine Below.drew ?_) | (with_reducible refine below_drewN ?_ _) | (with_reducible refine Below.setCell ?_ ?_ _) | (with_reducible refine Below.trans ?_ (Below.mono (by with_reducible assumption) ?_)) | (with_reducible exact Below.size (by with_reducible assumption)) | go_size)))
    (first
      | (go_at_call 66; refine (l01Columns_any _ M s _ (g1 _ (k3 _ (by (repeat' (first | (with_reducible exact Below.refl _ _) | (with_reducible assumption) | (with_reducible refine Below.alloc ?_ ?_ _) | (with_reducible refine Below.drew ?_) | (with_reducible refine below_drewN ?_ _) | (with_reducible refine Below.setCell ?_ ?_ _) | (with_reducible refine Below.trans ?_ (Below.mono (by with_reducible assumption) ?_)) | (with_reducible exact Below.size (by with_reducible assumption)) | go_size))))) f1 f2 HRL.out HE.out).mono ?_; rintro e w3 ⟨g3, cap3, us3, rfl, hf3, hb3⟩; have HR3 := Lib.hid (hf3.own.rows' HI.out); clear hf3; have hS3 : Below W0.heap.size W0 w3 := (by (repeat' (first | (with_reducible exact Below.refl _ _) | (with_reducible assumption) | (with_reducible refine Below.alloc ?_ ?_ _) | (with_reducible refine Below.drew ?_) | (with_reducible refine below_drewN ?_ _) | (with_reducible refine Below.setCell ?_ ?_ _) | (with_reducible refine Below.trans ?_ (Below.mono (by with_reducible assumption) ?_)) | (with_reducible exact Below.size (by with_reducible assumption)) | go_size)))))
  have x1 := k2 _ hS3
  have HW3 := Lib.hid (k3 _ hS3)
  have HS3 := Lib.hid hS3
  clear k1 k2 hb3 hS3
  go_wp2_with fail
  refine (HS.out _ _ HR3.out HW3.out).mono ?_; rintro e w4 ⟨g4, c4, rfl, hf4, hb4⟩
  have hS4 := HS3.out.trans (hb4.mono HS3.out.size)
  have HS4 := Lib.hid hS4
  have HW4 := Lib.hid (k3 _ hS4)
  have HR4 := Lib.hid (HR3.out.below hb4)
  obtain ⟨_, _, hvv, _, hz5, hoo⟩ := id hf4
  have hg4 : g4 < w4.heap.size := by simp at hvv; omega
  have hce : ∀ j, j < M.length → w4.cell? ⟨g4, j, none⟩ = some (.int .i64 (G j)) := fun j hj => by
    rw [own_cellN hoo (row_length _ _).symm hj]
    simp [hj]
  have HC4 := Lib.hid hce
  have hz4 : w.heap.size + 2 ≤ w4.heap.size := by have := hS4.size; have := HZ0.out; omega
  have HK3 := Lib.hid k3
  clear hvv hz5 hoo hce hf4 hb4 hS4 x1 HS3 HW3 HR3 k3
  go_wp2_with fail
  go_loopw [12] (fun i wr => ∃ (k : Nat) (v q : Value) (us : List Value), k ≤ M.length ∧ i = .int .i64 k ∧ PvG w4.heap.size wr (w4.heap.size + 1 + 1) (-(D)) v q (zTo M.length k) (sTo M Q s k) us ∧ Below w4.heap.size w4 wr) (fun i _ => M.length - (intOf i).toNat)
  case atStart => exact ⟨0, _, _, [], Nat.zero_le _, rfl, pvG_start w4 (-(D)), (((Below.refl _ _).alloc (Nat.le_refl _) _).alloc (by simp) _).alloc (by simp; omega) _⟩
  case round =>
    obtain ⟨k, v, q, us, hk, rfl, hP, hB⟩ := hrel
    by_cases hlt : k < M.length
    · have t1 := (hB.cell (p := ⟨g4, k, none⟩) hg4).trans (HC4.out k hlt)
      have HP := Lib.hid hP
      have HB := Lib.hid hB
      have hN := hP.lt
      have HZ := Lib.hid (zeros_fresh wr M.length (by unfold maxLen; omega))
      have HOV := Lib.hid (fun W (h : Below wr.heap.size wr W) => hP.ownV h (zTo_length M.length k))
      have q1 : ∀ w', Below wr.heap.size wr w' → w'.cell? ⟨w4.heap.size + 1 + 1, 1, none⟩ = some v := fun w' h => (h.cell (p := ⟨w4.heap.size + 1 + 1, 1, none⟩) hN).trans hP.c1
      have qc1 := hP.c1
      have qa : ∀ X, (wr.alloc X).cell? ⟨w4.heap.size + 1 + 1, 1, none⟩ = some v := fun X => q1 _ ((Below.refl _ _).alloc (Nat.le_refl _) _)
      have qb : ∀ X Y, ((wr.alloc X).alloc Y).cell? ⟨w4.heap.size + 1 + 1, 1, none⟩ = some v := fun X Y => q1 _ (((Below.refl _ _).alloc (Nat.le_refl _) _).alloc (by simp) _)
      clear hP hB
      go_wp2_with fail
      go_region_law (first | (refine step_append_lies _ rfl _ _ 22 rfl 0 23 i0 (.slice none 0 0) 1 24 Tryd.underlying22 hi hzz0 hzz1 hzz2 rfl (by decide) v k us rfl (HOV.out _ (by (repeat' (first | (with_reducible exact Below.refl _ _) | (with_reducible assumption) | (with_reducible refine Below.alloc ?_ ?_ _) | (with_reducible refine Below.drew ?_) | (with_reducible refine below_drewN ?_ _) | (with_reducible refine Below.setCell ?_ ?_ _) | (with_reducible refine Below.trans ?_ (Below.mono (by with_reducible assumption) ?_)) | (with_reducible exact Below.size (by with_reducible assumption)) | go_size)))) _ 1 _ [.slice (some ⟨wr.heap.size, 0, none⟩) M.length M.length] rfl rfl (cell_one_at (by simp)) (by simp [Value.oneCell']) (by decide) (by unfold maxLen; omega) (by omega) (Nat.zero_le _) _ rfl ?_; intro g5 cap5 w5 hown hgrow hat hlt5; obtain ⟨hs5, hcN, hfN⟩ := HP.out.far (by (repeat' (first | (with_reducible exact Below.refl _ _) | (with_reducible assumption) | (with_reducible refine Below.alloc ?_ ?_ _) | (with_reducible refine Below.drew ?_) | (with_reducible refine below_drewN ?_ _) | (with_reducible refine Below.setCell ?_ ?_ _) | (with_reducible refine Below.trans ?_ (Below.mono (by with_reducible assumption) ?_)) | (with_reducible exact Below.size (by with_reducible assumption)) | go_size))) hgrow HP.out.vN; have hcN1 := (hcN 1).trans HP.out.c1; have hfN1 := hfN 1; have hP5 := HP.out.rowF (by (repeat' (first | (with_reducible exact Below.refl _ _) | (with_reducible assumption) | (with_reducible refine Below.alloc ?_ ?_ _) | (with_reducible refine Below.drew ?_) | (with_reducible refine below_drewN ?_ _) | (with_reducible refine Below.setCell ?_ ?_ _) | (with_reducible refine Below.trans ?_ (Below.mono (by with_reducible assumption) ?_)) | (with_reducible exact Below.size (by with_reducible assumption)) | go_size))) (HZ.out.below (by (repeat' (first | (with_reducible exact Below.refl _ _) | (with_reducible assumption) | (with_reducible refine Below.alloc ?_ ?_ _) | (with_reducible refine Below.drew ?_) | (with_reducible refine below_drewN ?_ _) | (with_reducible refine Below.setCell ?_ ?_ _) | (with_reducible refine Below.trans ?_ (Below.mono (by with_reducible assumption) ?_)) | (with_reducible exact Below.size (by with_reducible assumption)) | go_size)))) (Nat.le_refl _) (zTo_length M.length k) hown hgrow hat; have hB5 := pvG_low (o := 1) (y := .slice (some ⟨g5, 0, none⟩) (k + 1) cap5) HB.out (by omega) hN (by (repeat' (first | (with_reducible exact Below.refl _ _) | (with_reducible assumption) | (with_reducible refine Below.alloc ?_ ?_ _) | (with_reducible refine Below.drew ?_) | (with_reducible refine below_drewN ?_ _) | (with_reducible refine Below.setCell ?_ ?_ _) | (with_reducible refine Below.trans ?_ (Below.mono (by with_reducible assumption) ?_)) | (with_reducible exact Below.size (by with_reducible assumption)) | go_size))) hgrow (fun b hb => (HP.out.rows.mb b hb).1); have HP5 := Lib.hid hP5; have HB5 := Lib.hid hB5; clear hP5 hB5 hown hgrow hat hcN hfN))
      all_goals
        obtain ⟨W6, hW6⟩ : ∃ W6, W6 = w5.setCell ⟨w4.heap.size + 1 + 1, 1, none⟩ (.slice (some ⟨g5, 0, none⟩) (k + 1) cap5) := ⟨_, rfl⟩
        have hP6 := HP5.out
        have hB6 := HB5.out
        rw [← zTo_succ] at hP6
        rw [← hW6] at hP6 hB6 ⊢
        clear hW6 HP5 HB5 hcN1 hfN1 hlt5 hs5 HOV q1 qc1 qa qb HZ HP HB hN t1
        have t6 := (hB6.cell (p := ⟨g4, k, none⟩) hg4).trans (HC4.out k hlt)
        have p62 := hP6.c2
        have z62 := hP6.nf 2
        have hN6 := hP6.lt
        have HSS := Lib.hid (sTo_succ M Q s k)
        have hgb := HGB.out k
        have HPSK := Lib.hid (HPS.out k)
        unfold Bd at hgb
        obtain ⟨hgb1, hgb2⟩ := hgb
        have HOQ := Lib.hid (fun W (h : Below W6.heap.size W6 W) => hP6.ownQ h (sTo_length M Q s k))
        have HP6 := Lib.hid hP6
        have HB6 := Lib.hid hB6
        clear hP6 hB6
        generalize G k = Y at *
        have hwr : IntKind.i64.wrap (-(Y)) = (-(Y)) := IntWalk.i64_in _ (by omega)
        go_wp2_with fail
        go_region_law (first | (refine step_append_lies _ rfl _ _ 23 rfl 0 2 j0 (.int .i64 0) 1 8 Tryd.underlying23 hj hyy0 hyy1 hyy2 rfl (by decide) q k ((sTo M Q s k).map (Value.int .i64)) rfl (HOQ.out _ (by (repeat' (first | (with_reducible exact Below.refl _ _) | (with_reducible assumption) | (with_reducible refine Below.alloc ?_ ?_ _) | (with_reducible refine Below.drew ?_) | (with_reducible refine below_drewN ?_ _) | (with_reducible refine Below.setCell ?_ ?_ _) | (with_reducible refine Below.trans ?_ (Below.mono (by with_reducible assumption) ?_)) | (with_reducible exact Below.size (by with_reducible assumption)) | go_size)))) _ 1 _ [.int .i64 (-(Y))] rfl rfl (cell_one_new _ _ _) (by simp [Value.oneCell']) (by decide) (by unfold maxLen; omega) (by omega) (Nat.zero_le _) _ rfl ?_; intro g7 cap7 w7 hown hgrow hat hlt7; obtain ⟨hs7, hcN, hfN⟩ := HP6.out.far (by (repeat' (first | (with_reducible exact Below.refl _ _) | (with_reducible assumption) | (with_reducible refine Below.alloc ?_ ?_ _) | (with_reducible refine Below.drew ?_) | (with_reducible refine below_drewN ?_ _) | (with_reducible refine Below.setCell ?_ ?_ _) | (with_reducible refine Below.trans ?_ (Below.mono (by with_reducible assumption) ?_)) | (with_reducible exact Below.size (by with_reducible assumption)) | go_size))) hgrow HP6.out.qN; have hcN2 := (hcN 2).trans HP6.out.c2; have hfN2 := hfN 2; have hP7 := HP6.out.numF (by (repeat' (first | (with_reducible exact Below.refl _ _) | (with_reducible assumption) | (with_reducible refine Below.alloc ?_ ?_ _) | (with_reducible refine Below.drew ?_) | (with_reducible refine below_drewN ?_ _) | (with_reducible refine Below.setCell ?_ ?_ _) | (with_reducible refine Below.trans ?_ (Below.mono (by with_reducible assumption) ?_)) | (with_reducible exact Below.size (by with_reducible assumption)) | go_size))) (sTo_length M Q s k) hown hgrow hat hlt7; rw [← HPSK.out, ← HSS.out] at hP7; have hB7 := pvG_low (o := 2) (y := .slice (some ⟨g7, 0, none⟩) (k + 1) cap7) HB6.out (by omega) hN6 (by (repeat' (first | (with_reducible exact Below.refl _ _) | (with_reducible assumption) | (with_reducible refine Below.alloc ?_ ?_ _) | (with_reducible refine Below.drew ?_) | (with_reducible refine below_drewN ?_ _) | (with_reducible refine Below.setCell ?_ ?_ _) | (with_reducible refine Below.trans ?_ (Below.mono (by with_reducible assumption) ?_)) | (with_reducible exact Below.size (by with_reducible assumption)) | go_size))) hgrow (fun b hb => (HP6.out.qb b hb).1); have HP7 := Lib.hid hP7; have HB7 := Lib.hid hB7; clear hP7 hB7 hown hgrow hat hcN hfN))
        all_goals
          go_wp2_with fail
          go_roundw
          case rel => exact ⟨k + 1, _, _, _, by omega, by go_num, HP7.out, HB7.out⟩
          case measure => simp [intOf]; omega
    · obtain rfl : k = M.length := by omega
      obtain ⟨gv, cv, rfl⟩ := hP.top1 (zTo_length _ _) f1
      obtain ⟨gq, cq, rfl⟩ := hP.side1 (sTo_length M Q s _) f1
      rw [zTo_all M s] at hP
      have HPA := Lib.hid hP
      have HBA := Lib.hid hB
      obtain ⟨W1, rfl⟩ : ∃ W1, W1 = wr := ⟨_, rfl⟩
      clear hP hB
      go_wp2_with fail
      go_loopw [13, 14, 15, 16, 17, 18, 19] (fun i _ _ _ _ _ _ wr => ∃ k : Nat, k ≤ M.length ∧ i = .int .i64 k ∧ PvG w4.heap.size wr (w4.heap.size + 1 + 1) (-(D)) (.slice (some ⟨gv, 0, none⟩) M.length cv) (.slice (some ⟨gq, 0, none⟩) M.length cq) (tab M.length (fKp M s k 0)) (sTo M Q s M.length) us ∧ Below w4.heap.size w4 wr) (fun i _ _ _ _ _ _ _ => M.length - (intOf i).toNat)
      case atStart => exact ⟨0, Nat.zero_le _, rfl, HPA.out, HBA.out⟩
      case round =>
        obtain ⟨k, hk, rfl, hP, hB⟩ := hrel
        by_cases hlt : k < M.length
        · have HP := Lib.hid hP
          have HB := Lib.hid hB
          have HZ := Lib.hid (zeros_fresh wr M.length (by unfold maxLen; omega))
          have hzr := hB.size
          obtain ⟨W2, rfl⟩ : ∃ W2, W2 = wr := ⟨_, rfl⟩
          clear hP hB HPA HBA
          obtain ⟨W0', hW0'⟩ : ∃ W0', W0' = W2 := ⟨_, rfl⟩
          have kb1 : ∀ w', Below W2.heap.size W2 w' → w'.cell? ⟨w.heap.size, 0, none⟩ = some (.slice (some ⟨b, off, none⟩) M.length c1) := fun w' h => HK1.out w' (HS4.out.trans ((HB.out.trans (h.mono hzr)).mono HS4.out.size))
          have hz40 : w4.heap.size ≤ W2.heap.size := hzr
          have hwb : w.heap.size + 2 ≤ w4.heap.size := hz4
          clear hW0' 
          have HKB := Lib.hid kb1
          clear kb1
          -- the right side
          have HSUM : Hid (∀ j wr, j < M.length → Below W2.heap.size W2 wr → ∃ bk ok ck, wr.cell? ⟨b, off + j, none⟩ = some (.slice (some ⟨bk, ok, none⟩) M.length ck) ∧ wr.cell? ⟨bk, ok + k, none⟩ = some (.int .i64 (ent M j k))) := Lib.hid (fun j wr hj h => by
            have hBw : Below w.heap.size w wr := HW4.out.trans ((HB.out.trans (h.mono hzr)).mono HW4.out.size)
            obtain ⟨u, c3, hIr⟩ := HCE.out j hj
            have hrk := HRL.out j hj
            obtain ⟨ak, ck, rfl, _, _, _, hxk⟩ := hIr
            obtain ⟨bk, ok, rfl, hbk, hck⟩ : ∃ b off, ak = some ⟨b, off, none⟩ ∧ b < w.heap.size ∧ CellsAt w b off (M.getD j []) := by
              rcases hxk with hx | hx
              · rw [hx] at hrk; simp at hrk; omega
              · exact hx
            refine ⟨bk, ok, ck, ?_, ?_⟩
            · rw [← hrk]; exact (hBw.cell (p := ⟨b, off + j, none⟩) hblt).trans c3
            · exact (hBw.cell (p := ⟨bk, ok + k, none⟩) hbk).trans (hck k (by omega)))
          rcases HBC.out k with ⟨hbt, hbf⟩ | ⟨hbt, hbf⟩
          · have HBF := Lib.hid hbf
            clear hbf
            go_wp2_with fail
            go_loopw [15] (fun i wr => ∃ j : Nat, j ≤ M.length ∧ i = .int .i64 j ∧ FreshI W2.heap.size wr (.slice (some ⟨W2.heap.size, 0, none⟩) M.length M.length) ((List.range M.length).map (ouL M s k j)) ∧ Below W2.heap.size W2 wr) (fun i _ => M.length - (intOf i).toNat)
            case atStart => exact ⟨0, Nat.zero_le _, rfl, by rw [ouL_zero]; exact HZ.out, (Below.refl _ _).alloc (Nat.le_refl _) _⟩
            case round =>
              obtain ⟨j, hj2, rfl, hF, hB2⟩ := hrel
              by_cases hltj : j < M.length
              · obtain ⟨bk, ok, ck, r1, r2⟩ := HSUM.out j wr hltj hB2
                have r0 := HKB.out wr hB2
                have hst := hF.set j (ent M j k)
                rw [ouL_set _ _ HBF.out] at hst
                have HST := Lib.hid hst
                have HBS := Lib.hid (hB2.setCell (p := ⟨W2.heap.size, j, none⟩) (Nat.le_refl _) (.int .i64 (ent M j k)))
                obtain ⟨_, _, hvv, _, hlt', ho⟩ := hF
                have e6 := own_cellN ho (row_length _ _).symm hltj
                have e7 := own_frozenN ho (row_length _ _).symm j
                clear hst ho hvv hB2
                generalize ent M j k = X at *
                generalize ((List.range M.length).map (ouL M s k j)).getD j 0 = X2 at *
                go_wp2_with fail
                go_roundw
                case rel => exact ⟨j + 1, by omega, by go_num, HST.out, HBS.out⟩
                case measure => simp [intOf]; omega
              · obtain rfl : j = M.length := by omega
                rw [ouL_out HBF.out] at hF
                have HF := Lib.hid hF
                have HB2 := Lib.hid hB2
                obtain ⟨W3, rfl⟩ : ∃ W3, W3 = wr := ⟨_, rfl⟩
                clear hF hB2
                go_wp2_with fail
                obtain ⟨_, _, hvv, _, hlt', ho⟩ := id HF.out
                refine (HS2.out k _ _ _ (HR4.out.below (HB.out.trans (HB2.out.mono hzr))) (by have := OwnI.ints (v := .slice (some ⟨W2.heap.size, 0, none⟩) M.length M.length) ho (HOI.out k); exact this)).mono ?_; rintro e w5 ⟨g7, c7, rfl, hf7, hb7⟩
                have h05 := HB.out.trans ((HB2.out.trans (hb7.mono HB2.out.size)).mono hzr)
                have hP5 := HP.out.below (HB2.out.trans (hb7.mono HB2.out.size))
                obtain ⟨_, _, hv7, hg7, _, ho7⟩ := id hf7
                have hg7' : W2.heap.size ≤ g7 := by have := HB2.out.size; simp at hv7; omega
                have hce7 : ∀ j, j < M.length → w5.cell? ⟨g7, j, none⟩ = some (.int .i64 (H k j)) := fun j hj => by
                  rw [own_cellN ho7 (row_length _ _).symm hj]
                  simp [hj]
                have HP5 := Lib.hid hP5
                have H05 := Lib.hid h05
                have HC7 := Lib.hid hce7
                have hlow := HP.out.rows.ub
                have HUB := Lib.hid (show ∀ i, i < M.length → ∀ gi ci, us.getD i undef = .slice (some ⟨gi, 0, none⟩) M.length ci → gi < W2.heap.size from fun i hi gi ci hu => (hlow i gi (by rw [tab_length]; exact hi) (by rw [hu]; rfl)).2)
                clear hlow hP5 h05 hce7 hv7 hg7 ho7 hf7 hb7 ho hvv hlt'
                go_wp2_with fail
                go_loopw [18, 19] (fun i _ wr => ∃ a : Nat, a ≤ M.length ∧ i = .int .i64 a ∧ PvG w4.heap.size wr (w4.heap.size + 1 + 1) (-(D)) (.slice (some ⟨gv, 0, none⟩) M.length cv) (.slice (some ⟨gq, 0, none⟩) M.length cq) (tab M.length (fKp M s k a)) (sTo M Q s M.length) us ∧ Below w4.heap.size w4 wr ∧ ∀ j, j < M.length → wr.cell? ⟨g7, j, none⟩ = some (.int .i64 (H k j))) (fun i _ _ => M.length - (intOf i).toNat)
                case atStart => exact ⟨0, Nat.zero_le _, rfl, HP5.out, H05.out, HC7.out⟩
                case round =>
                  obtain ⟨a, ha, rfl, hP6, hB6, hC6⟩ := hrel
                  by_cases hlta : a < M.length
                  · obtain ⟨gi, ci, hu, p1, p2, hgi, hgl⟩ := hP6.at hlta
                    obtain ⟨p3, p4⟩ := p2 k hlt
                    have p5 := hP6.c1
                    have p6 := hC6 a hlta
                    have hgu := HUB.out a hlta gi ci hu
                    have hne : g7 ≠ gi := by omega
                    have hst := (hP6.ent (k := k) hlta hu (-(H k a))).congr (f' := fKp M s k (a + 1)) (fun x y _ _ => by rw [← HPR.out a k]; exact fKp_step M s k a x y)
                    have hbs := hB6.setCell (p := ⟨gi, k, none⟩) hgi (.int .i64 (-(H k a)))
                    have hcs : ∀ j, j < M.length → (wr.setCell ⟨gi, k, none⟩ (.int .i64 (-(H k a)))).cell? ⟨g7, j, none⟩ = some (.int .i64 (H k j)) := fun j hj => by rw [World.cell?_setCell_far _ _ _ _ hne.symm]; exact hC6 j hj
                    have HST := Lib.hid hst
                    have HBS := Lib.hid hbs
                    have HCS := Lib.hid hcs
                    have hhb := HHB.out k a
                    unfold Bd at hhb
                    obtain ⟨hhb1, hhb2⟩ := hhb
                    clear hst hbs hcs hP6 hB6 hC6 p2 hu
                    generalize H k a = Y at *
                    generalize fKp M s k a a k = X at *
                    have hwr : IntKind.i64.wrap (-(Y)) = (-(Y)) := IntWalk.i64_in _ (by omega)
                    go_wp2_with fail
                    go_roundw
                    case rel => exact ⟨a + 1, by omega, by go_num, HST.out, HBS.out, HCS.out⟩
                    case measure => simp [intOf]; omega
                  · obtain rfl : a = M.length := by omega
                    have HPE := Lib.hid (hP6.congr (fun x y hx _ => fKp_next (M := M) (s := s) (k := k) y hx))
                    have HBE := Lib.hid hB6
                    clear hP6 hB6 hC6
                    go_wp2_with fail
                    go_roundw
                    case rel => exact ⟨k + 1, by omega, by go_num, HPE.out, HBE.out⟩
                    case measure => simp [intOf]; omega
          · have HBF := Lib.hid hbf
            clear hbf
            go_wp2_with fail
            go_loopw [15] (fun i wr => ∃ j : Nat, j ≤ M.length ∧ i = .int .i64 j ∧ FreshI W2.heap.size wr (.slice (some ⟨W2.heap.size, 0, none⟩) M.length M.length) ((List.range M.length).map (ouL M s k j)) ∧ Below W2.heap.size W2 wr) (fun i _ => M.length - (intOf i).toNat)
            case atStart => exact ⟨0, Nat.zero_le _, rfl, by rw [ouL_zero]; exact HZ.out, (Below.refl _ _).alloc (Nat.le_refl _) _⟩
            case round =>
              obtain ⟨j, hj2, rfl, hF, hB2⟩ := hrel
              by_cases hltj : j < M.length
              · have HST := Lib.hid (by rw [ouL_skip M.length j HBF.out] at hF; exact hF : FreshI W2.heap.size wr (.slice (some ⟨W2.heap.size, 0, none⟩) M.length M.length) ((List.range M.length).map (ouL M s k (j + 1))))
                have HBS := Lib.hid hB2
                clear hF hB2
                go_wp2_with fail
                go_roundw
                case rel => exact ⟨j + 1, by omega, by go_num, HST.out, HBS.out⟩
                case measure => simp [intOf]; omega
              · obtain rfl : j = M.length := by omega
                have hst := hF.set k (-1)
                rw [ouL_in HBF.out] at hst
                have HF := Lib.hid hst
                have HB2 := Lib.hid (hB2.setCell (p := ⟨W2.heap.size, k, none⟩) (Nat.le_refl _) (.int .i64 (-1)))
                obtain ⟨_, _, hvv, _, hlt', ho⟩ := hF
                have e6 := own_cellN ho (row_length _ _).symm hlt
                have e7 := own_frozenN ho (row_length _ _).symm k
                clear hst ho hvv hB2
                generalize ((List.range M.length).map (ouL M s k M.length)).getD k 0 = X2 at *
                obtain ⟨W3, hW3⟩ : ∃ W3, W3 = wr.setCell ⟨W2.heap.size, k, none⟩ (.int .i64 (-1)) := ⟨_, rfl⟩
                rw [← hW3] at HF HB2
                have HW3 := Lib.hid hW3
                clear hW3
                go_wp2_with fail
                rw [← HW3.out]
                obtain ⟨_, _, hvv, _, hlt', ho⟩ := id HF.out
                refine (HS2.out k _ _ _ (HR4.out.below (HB.out.trans (HB2.out.mono hzr))) (by have := OwnI.ints (v := .slice (some ⟨W2.heap.size, 0, none⟩) M.length M.length) ho (HOI.out k); exact this)).mono ?_; rintro e w5 ⟨g7, c7, rfl, hf7, hb7⟩
                have h05 := HB.out.trans ((HB2.out.trans (hb7.mono HB2.out.size)).mono hzr)
                have hP5 := HP.out.below (HB2.out.trans (hb7.mono HB2.out.size))
                obtain ⟨_, _, hv7, hg7, _, ho7⟩ := id hf7
                have hg7' : W2.heap.size ≤ g7 := by have := HB2.out.size; simp at hv7; omega
                have hce7 : ∀ j, j < M.length → w5.cell? ⟨g7, j, none⟩ = some (.int .i64 (H k j)) := fun j hj => by
                  rw [own_cellN ho7 (row_length _ _).symm hj]
                  simp [hj]
                have HP5 := Lib.hid hP5
                have H05 := Lib.hid h05
                have HC7 := Lib.hid hce7
                have hlow := HP.out.rows.ub
                have HUB := Lib.hid (show ∀ i, i < M.length → ∀ gi ci, us.getD i undef = .slice (some ⟨gi, 0, none⟩) M.length ci → gi < W2.heap.size from fun i hi gi ci hu => (hlow i gi (by rw [tab_length]; exact hi) (by rw [hu]; rfl)).2)
                clear hlow hP5 h05 hce7 hv7 hg7 ho7 hf7 hb7 ho hvv hlt'
                go_wp2_with fail
                go_loopw [18, 19] (fun i _ wr => ∃ a : Nat, a ≤ M.length ∧ i = .int .i64 a ∧ PvG w4.heap.size wr (w4.heap.size + 1 + 1) (-(D)) (.slice (some ⟨gv, 0, none⟩) M.length cv) (.slice (some ⟨gq, 0, none⟩) M.length cq) (tab M.length (fKp M s k a)) (sTo M Q s M.length) us ∧ Below w4.heap.size w4 wr ∧ ∀ j, j < M.length → wr.cell? ⟨g7, j, none⟩ = some (.int .i64 (H k j))) (fun i _ _ => M.length - (intOf i).toNat)
                case atStart => exact ⟨0, Nat.zero_le _, rfl, HP5.out, H05.out, HC7.out⟩
                case round =>
                  obtain ⟨a, ha, rfl, hP6, hB6, hC6⟩ := hrel
                  by_cases hlta : a < M.length
                  · obtain ⟨gi, ci, hu, p1, p2, hgi, hgl⟩ := hP6.at hlta
                    obtain ⟨p3, p4⟩ := p2 k hlt
                    have p5 := hP6.c1
                    have p6 := hC6 a hlta
                    have hgu := HUB.out a hlta gi ci hu
                    have hne : g7 ≠ gi := by omega
                    have hst := (hP6.ent (k := k) hlta hu (-(H k a))).congr (f' := fKp M s k (a + 1)) (fun x y _ _ => by rw [← HPR.out a k]; exact fKp_step M s k a x y)
                    have hbs := hB6.setCell (p := ⟨gi, k, none⟩) hgi (.int .i64 (-(H k a)))
                    have hcs : ∀ j, j < M.length → (wr.setCell ⟨gi, k, none⟩ (.int .i64 (-(H k a)))).cell? ⟨g7, j, none⟩ = some (.int .i64 (H k j)) := fun j hj => by rw [World.cell?_setCell_far _ _ _ _ hne.symm]; exact hC6 j hj
                    have HST := Lib.hid hst
                    have HBS := Lib.hid hbs
                    have HCS := Lib.hid hcs
                    have hhb := HHB.out k a
                    unfold Bd at hhb
                    obtain ⟨hhb1, hhb2⟩ := hhb
                    clear hst hbs hcs hP6 hB6 hC6 p2 hu
                    generalize H k a = Y at *
                    generalize fKp M s k a a k = X at *
                    have hwr : IntKind.i64.wrap (-(Y)) = (-(Y)) := IntWalk.i64_in _ (by omega)
                    go_wp2_with fail
                    go_roundw
                    case rel => exact ⟨a + 1, by omega, by go_num, HST.out, HBS.out, HCS.out⟩
                    case measure => simp [intOf]; omega
                  · obtain rfl : a = M.length := by omega
                    have HPE := Lib.hid (hP6.congr (fun x y hx _ => fKp_next (M := M) (s := s) (k := k) y hx))
                    have HBE := Lib.hid hB6
                    clear hP6 hB6 hC6
                    go_wp2_with fail
                    go_roundw
                    case rel => exact ⟨k + 1, by omega, by go_num, HPE.out, HBE.out⟩
                    case measure => simp [intOf]; omega
        · obtain rfl : k = M.length := by omega
          have e0 := hP.c0
          have e1 := hP.c1
          have e2 := hP.c2
          obtain ⟨m0, m1, m2, m3⟩ := HK4.out wr (HS4.out.trans (hB.mono HS4.out.size))
          have hwr2 := hB.size
          have HP := Lib.hid (hP.congr (fun a b _ hb => fKp_end (M := M) (s := s) a hb)).m
          have HB := Lib.hid (HW4.out.trans (hB.mono HW4.out.size))
          clear hP hB HPA HBA
          go_wp2_with fail
          refine bodyPost_ret (v := .tuple #[.agg #[.int .i64 (-(D)), .slice (some ⟨gv, 0, none⟩) M.length cv, .slice (some ⟨gq, 0, none⟩) M.length cq], .bool true]) (by simp [*, results, Tryd.results45, go_sem]) rfl ?_
          have ht : Tch [w.heap.size + 1] wr (((wr.setCell ⟨w.heap.size + 1, 0, none⟩ (.int .i64 (-(D)))).setCell ⟨w.heap.size + 1, 1, none⟩ (.slice (some ⟨gv, 0, none⟩) M.length cv)).setCell ⟨w.heap.size + 1, 2, none⟩ (.slice (some ⟨gq, 0, none⟩) M.length cq)) := (((Tch.refl _ _).setCell (by simp) _).setCell (by simp) _).setCell (by simp) _
          exact ⟨_, cv, _, cq, us, by rw [HPD.out], (HP.out.old ht (fun b hb => by simp at hb; omega)).mono (by omega), HB.out.trans (ht.below (fun b hb => by simp at hb; omega))⟩
end Go.Proofs.YthnefjllijoobaaDoor.PW
namespace Go.Proofs.YthnefjllijoobaaDoor.PW
open Go.RowKit Go.Proofs.YthnefjllijoobaaDoor
open Go.Proofs.YthnefjllijoobaaDoor.PM Go.Proofs.YthnefjllijoobaaDoor.PX

set_option maxRecDepth 100000 in
set_option maxHeartbeats 4000000 in
theorem l04Pivot_zero (m q : Value) (M : List (List Int)) (Q : List Int) (s : Int) (w : World) (h1 : PM.Rows w m M) (h2 : Ints w q Q) (hp : isPB M Q = true) (hD : dt M.length (colS M s) = 0) :
    Calls Tryd.prog 45 #[.agg #[m, q], .int .i64 s] w fun e w' => e = .returned (.tuple #[.agg #[.int .i64 0, .slice none 0 0, .slice none 0 0], .bool false]) ∧ Below w.heap.size w w' := by
  have g1 := fun (w' : World) (h : Below w.heap.size w w') => h1.below h
  have g2 := fun (w' : World) (h : Below w.heap.size w w') => h2.below h
  obtain ⟨f1, f2, f3, f4, f5⟩ := isPB_facts hp
  obtain ⟨a1, c1, rfl, _⟩ := h1
  obtain ⟨bq, oq, c2, rfl, _, _⟩ := ints_at h2 f3 f1
  have HRL := Lib.hid (fun j hj => (f4 j hj).1)
  have HE := Lib.hid (ent_bd hp)
  have HI := Lib.hid (tab_I64 (n := M.length) (g := colS M s) (B := 20) (by decide) (fun i j _ _ => colS_all hp s i j))
  have hbq : ∀ j, Bd 100 (Q.getD j 0) := fun j => isPB_q hp j
  have hsol := fun (v : Value) (w' : World) (h : PM.Rows w' v (tab M.length (colS M s))) (hb : Below w.heap.size w w') => l01Solve_any v _ M.length (colS M s) Q w' h (g2 w' hb) f3 f1 f2 (fun i j => (colS_all hp s i j).mono (by decide)) hbq
  rw [hD] at hsol
  have HS := Lib.hid hsol
  clear hp h2 f3 f4 f5 hsol hbq hD
  go_enter Tryd.func45, Tryd.ntmps45
  go_wp2_with fail
  obtain ⟨W0, hW0⟩ : ∃ W0, W0 = (w.alloc (.cells #[.slice a1 M.length c1, .slice (some ⟨bq, oq, none⟩) M.length c2] 31)).alloc (.cells #[.int .i64 0, .slice none 0 0, .slice none 0 0] 28) := ⟨_, rfl⟩
  have hb0 : Below w.heap.size w W0 := by rw [hW0]; exact ((Below.refl _ _).alloc (Nat.le_refl _) _).alloc (by simp) _
  have hz0 : W0.heap.size = w.heap.size + 2 := by rw [hW0]; simp
  have k1 : ∀ w', Below W0.heap.size W0 w' → w'.cell? ⟨w.heap.size, 0, none⟩ = some (.slice a1 M.length c1) := fun w' h => (h.cell (p := ⟨w.heap.size, 0, none⟩) (by show w.heap.size < _; omega)).trans (by rw [hW0]; simp [go_sem])
  have k2 : ∀ w', Below W0.heap.size W0 w' → w'.cell? ⟨w.heap.size, 1, none⟩ = some (.slice (some ⟨bq, oq, none⟩) M.length c2) := fun w' h => (h.cell (p := ⟨w.heap.size, 1, none⟩) (by show w.heap.size < _; omega)).trans (by rw [hW0]; simp [go_sem])
  have k4 : ∀ w', Below W0.heap.size W0 w' → w'.cell? ⟨w.heap.size + 1, 0, none⟩ = some (.int .i64 0) ∧ w'.cell? ⟨w.heap.size + 1, 1, none⟩ = some (.slice none 0 0) ∧ w'.cell? ⟨w.heap.size + 1, 2, none⟩ = some (.slice none 0 0) ∧ ∀ o, w'.frozen? ⟨w.heap.size + 1, o, none⟩ = false := fun w' h =>
    ⟨(h.cell (p := ⟨w.heap.size + 1, 0, none⟩) (by show w.heap.size + 1 < _; omega)).trans (by rw [hW0]; simp [go_sem]), (h.cell (p := ⟨w.heap.size + 1, 1, none⟩) (by show w.heap.size + 1 < _; omega)).trans (by rw [hW0]; simp [go_sem]), (h.cell (p := ⟨w.heap.size + 1, 2, none⟩) (by show w.heap.size + 1 < _; omega)).trans (by rw [hW0]; simp [go_sem]),
      fun o => (h.frozen (p := ⟨w.heap.size + 1, o, none⟩) (by show w.heap.size + 1 < _; omega)).trans (by rw [hW0]; simp [go_sem])⟩
  have k3 : ∀ w', Below W0.heap.size W0 w' → Below w.heap.size w w' := fun w' h => hb0.trans (h.mono hb0.size)
  have HK4 := Lib.hid k4
  rw [← hW0]
  clear hW0 k4 hz0
  go_region_held3 (fun w' => Below W0.heap.size W0 w') ((repeat' (first | (with_reducible exact Below.refl _ _) | (with_reducible assumption) | (with_reducible refine Below.alloc ?_ ?_ _) | (with_reducible refine Below.drew ?_) | (with_reducible refine below_drewN ?_ _) | (with_reducible refine Below.setCell ?_ ?_ _) | (with_reducible refine Below.trans ?_ (Below.mono (by with_reducible assumption) ?_)) | (with_reducible exact Below.size (by with_reducible assumption)) | go_size)))
    (first
      | (go_at_call 66; refine (l01Columns_any _ M s _ (g1 _ (k3 _ (by (repeat' (first | (with_reducible exact Below.refl _ _) | (with_reducible assumption) | (with_reducible refine Below.alloc ?_ ?_ _) | (with_reducible refine Below.drew ?_) | (with_reducible refine below_drewN ?_ _) | (with_reducible refine Below.setCell ?_ ?_ _) | (with_reducible refine Below.trans ?_ (Below.mono (by with_reducible assumption) ?_)) | (with_reducible exact Below.size (by with_reducible assumption)) | go_size))))) f1 f2 HRL.out HE.out).mono ?_; rintro e w3 ⟨g3, cap3, us3, rfl, hf3, hb3⟩; have HR3 := Lib.hid (hf3.own.rows' HI.out); clear hf3; have hS3 : Below W0.heap.size W0 w3 := (by (repeat' (first | (with_reducible exact Below.refl _ _) | (with_reducible assumption) | (with_reducible refine Below.alloc ?_ ?_ _) | (with_reducible refine Below.drew ?_) | (with_reducible refine below_drewN ?_ _) | (with_reducible refine Below.setCell ?_ ?_ _) | (with_reducible refine Below.trans ?_ (Below.mono (by with_reducible assumption) ?_)) | (with_reducible exact Below.size (by with_reducible assumption)) | go_size)))))
  have x1 := k2 _ hS3
  have HW3 := Lib.hid (k3 _ hS3)
  have HS3 := Lib.hid hS3
  clear k1 k2 hb3 hS3
  go_wp2_with fail
  refine (HS.out _ _ HR3.out HW3.out).mono ?_; rintro e w4 ⟨g4, c4, rfl, hf4, hb4⟩
  have hS4 := HS3.out.trans (hb4.mono HS3.out.size)
  obtain ⟨m0, m1, m2, m3⟩ := HK4.out w4 hS4
  have HW4 := Lib.hid (k3 _ hS4)
  clear hf4 hb4 hS4 x1 HS3 HW3 HR3 k3
  go_wp2_with fail
  refine bodyPost_ret (v := .tuple #[.agg #[.int .i64 0, .slice none 0 0, .slice none 0 0], .bool false]) (by simp [*, results, Tryd.results45, go_sem]) rfl ?_
  exact ⟨rfl, ((HW4.out.setCell (by simp) _).setCell (by simp) _).setCell (by simp) _⟩

theorem l04Pivot_ok (m q : Value) (M : List (List Int)) (Q : List Int) (s : Int) (w : World) (h1 : PM.Rows w m M) (h2 : Ints w q Q) (hp : isPB M Q = true) (hs0 : 0 ≤ s) (hs1 : s < 2 ^ M.length) (hD : dt M.length (colS M s) ≠ 0) :
    Calls Tryd.prog 45 #[.agg #[m, q], .int .i64 s] w fun e w' => ∃ a c a' c' us, e = .returned (.tuple #[.agg #[.int .i64 (pvD M s), .slice a (tab M.length (pvR M s)).length c, .slice a' ((List.range M.length).map (pvS M Q s)).length c'], .bool true]) ∧
      PvM w.heap.size w' (.slice a (tab M.length (pvR M s)).length c) (.slice a' ((List.range M.length).map (pvS M Q s)).length c') (tab M.length (pvR M s)) ((List.range M.length).map (pvS M Q s)) us ∧ Below w.heap.size w w' := by
  have e1 : (tab M.length (pvR M s)).length = M.length := tab_length _ _
  have e2 : ((List.range M.length).map (pvS M Q s)).length = M.length := by simp
  rw [e1, e2]
  rcases Int.lt_or_gt_of_ne hD with h | h
  · exact l04Pivot_neg m q M Q s w h1 h2 hp hs0 hs1 h
  · exact l04Pivot_pos m q M Q s w h1 h2 hp hs0 hs1 h

set_option maxHeartbeats 4000000 in
theorem specPivotOf_any (m q : Value) (M : List (List Int)) (Q : List Int) (s : Int) (w : World) (h1 : PM.Rows w m M) (h2 : Ints w q Q) :
    Calls Tryd.prog 12 #[.agg #[m, q], .int .i64 s] w (OutPv w (pvOut M Q s)) := by
  have g1 := fun (w' : World) (h : Below w.heap.size w w') => h1.below h
  have g2 := fun (w' : World) (h : Below w.heap.size w w') => h2.below h
  obtain ⟨a1, c1, rfl, _⟩ := h1
  obtain ⟨a2, c2, rfl, _⟩ := h2
  obtain ⟨c, hc⟩ : ∃ c, c = setCode M Q s := ⟨_, rfl⟩
  have HC := Lib.hid hc
  by_cases hcz : c ≠ 0
  · rw [pvOut_e1 hc.symm hcz]
    clear hc
    go_enter Tryd.func12, Tryd.ntmps12
    go_wp2_with fail
    refine (l02Code_any _ _ M Q s _ (g1 _ (by (repeat' (first | (with_reducible exact Below.refl _ _) | (with_reducible assumption) | (with_reducible refine Below.alloc ?_ ?_ _) | (with_reducible refine Below.drew ?_) | (with_reducible refine below_drewN ?_ _) | (with_reducible refine Below.setCell ?_ ?_ _) | (with_reducible refine Below.trans ?_ (Below.mono (by with_reducible assumption) ?_)) | (with_reducible exact Below.size (by with_reducible assumption)) | go_size)))) (g2 _ (by (repeat' (first | (with_reducible exact Below.refl _ _) | (with_reducible assumption) | (with_reducible refine Below.alloc ?_ ?_ _) | (with_reducible refine Below.drew ?_) | (with_reducible refine below_drewN ?_ _) | (with_reducible refine Below.setCell ?_ ?_ _) | (with_reducible refine Below.trans ?_ (Below.mono (by with_reducible assumption) ?_)) | (with_reducible exact Below.size (by with_reducible assumption)) | go_size))))).mono ?_; rw [← HC.out]; rintro e w1 ⟨rfl, hb1⟩; obtain ⟨hc_hb1, hf_hb1⟩ := bcell hb1; obtain ⟨hcA_hb1, hfA_hb1⟩ := bcellG (W0 := w) hb1 (by (repeat' (first | (with_reducible exact Below.refl _ _) | (with_reducible assumption) | (with_reducible refine Below.alloc ?_ ?_ _) | (with_reducible refine Below.drew ?_) | (with_reducible refine below_drewN ?_ _) | (with_reducible refine Below.setCell ?_ ?_ _) | (with_reducible refine Below.trans ?_ (Below.mono (by with_reducible assumption) ?_)) | (with_reducible exact Below.size (by with_reducible assumption)) | go_size))); have hz_hb1 := hb1.size; (try simp at hz_hb1); (try simp only [Nat.add_one_le_iff] at hz_hb1); have hz0_hb1 : w.heap.size < w1.heap.size := (by omega); have hz1_hb1 : w.heap.size + 1 < w1.heap.size := (by omega)
    go_wp2_with fail
    refine bodyPost_ret (v := .tuple #[.agg #[.int .i64 0, .slice none 0 0, .slice none 0 0], .int .i64 c]) (by simp [*, results, Tryd.results12, go_sem]) rfl ?_
    exact outPv_err (by (repeat' (first | (with_reducible exact Below.refl _ _) | (with_reducible assumption) | (with_reducible refine Below.alloc ?_ ?_ _) | (with_reducible refine Below.drew ?_) | (with_reducible refine below_drewN ?_ _) | (with_reducible refine Below.setCell ?_ ?_ _) | (with_reducible refine Below.trans ?_ (Below.mono (by with_reducible assumption) ?_)) | (with_reducible exact Below.size (by with_reducible assumption)) | go_size)))
  have hc0 : setCode M Q s = 0 := by omega
  obtain ⟨hp, hs0, hs1⟩ : isPB M Q = true ∧ 0 ≤ s ∧ s < 2 ^ M.length := by
    rcases setCode_cases M Q s with h | h | ⟨_, h⟩
    · omega
    · omega
    · exact h
  have HC0 := Lib.hid hc0
  clear hc hcz HC
  by_cases hm : dt M.length (colS M s) = 0
  · rw [pvOut_e2 hc0 hm]
    have HDO := Lib.hid (fun (w' : World) (h : Below w.heap.size w w') => l04Pivot_zero (.slice a1 M.length c1) (.slice a2 Q.length c2) M Q s w' (g1 w' h) (g2 w' h) hp hm)
    clear hp hs0 hs1 hc0 hm
    go_enter Tryd.func12, Tryd.ntmps12
    go_wp2_with fail
    refine (l02Code_any _ _ M Q s _ (g1 _ (by (repeat' (first | (with_reducible exact Below.refl _ _) | (with_reducible assumption) | (with_reducible refine Below.alloc ?_ ?_ _) | (with_reducible refine Below.drew ?_) | (with_reducible refine below_drewN ?_ _) | (with_reducible refine Below.setCell ?_ ?_ _) | (with_reducible refine Below.trans ?_ (Below.mono (by with_reducible assumption) ?_)) | (with_reducible exact Below.size (by with_reducible assumption)) | go_size)))) (g2 _ (by (repeat' (first | (with_reducible exact Below.refl _ _) | (with_reducible assumption) | (with_reducible refine Below.alloc ?_ ?_ _) | (with_reducible refine Below.drew ?_) | (with_reducible refine below_drewN ?_ _) | (with_reducible refine Below.setCell ?_ ?_ _) | (with_reducible refine Below.trans ?_ (Below.mono (by with_reducible assumption) ?_)) | (with_reducible exact Below.size (by with_reducible assumption)) | go_size))))).mono ?_; rw [HC0.out]; rintro e w1 ⟨rfl, hb1⟩; obtain ⟨hc_hb1, hf_hb1⟩ := bcell hb1; obtain ⟨hcA_hb1, hfA_hb1⟩ := bcellG (W0 := w) hb1 (by (repeat' (first | (with_reducible exact Below.refl _ _) | (with_reducible assumption) | (with_reducible refine Below.alloc ?_ ?_ _) | (with_reducible refine Below.drew ?_) | (with_reducible refine below_drewN ?_ _) | (with_reducible refine Below.setCell ?_ ?_ _) | (with_reducible refine Below.trans ?_ (Below.mono (by with_reducible assumption) ?_)) | (with_reducible exact Below.size (by with_reducible assumption)) | go_size))); have hz_hb1 := hb1.size; (try simp at hz_hb1); (try simp only [Nat.add_one_le_iff] at hz_hb1); have hz0_hb1 : w.heap.size < w1.heap.size := (by omega); have hz1_hb1 : w.heap.size + 1 < w1.heap.size := (by omega)
    have hw1 : Below w.heap.size w w1 := by (repeat' (first | (with_reducible exact Below.refl _ _) | (with_reducible assumption) | (with_reducible refine Below.alloc ?_ ?_ _) | (with_reducible refine Below.drew ?_) | (with_reducible refine below_drewN ?_ _) | (with_reducible refine Below.setCell ?_ ?_ _) | (with_reducible refine Below.trans ?_ (Below.mono (by with_reducible assumption) ?_)) | (with_reducible exact Below.size (by with_reducible assumption)) | go_size))
    have x0 : w1.cell? ⟨w.heap.size, 0, none⟩ = some (.slice a1 M.length c1) := by rw [hc_hb1 _ _ (by go_size)]; simp [go_sem]
    have x1 : w1.cell? ⟨w.heap.size, 1, none⟩ = some (.slice a2 Q.length c2) := by rw [hc_hb1 _ _ (by go_size)]; simp [go_sem]
    have y0 : w1.cell? ⟨w.heap.size + 1, 0, none⟩ = some (.int .i64 0) := by rw [hc_hb1 _ _ (by go_size)]; simp [go_sem]
    have y1 : w1.cell? ⟨w.heap.size + 1, 1, none⟩ = some (.slice none 0 0) := by rw [hc_hb1 _ _ (by go_size)]; simp [go_sem]
    have y2 : w1.cell? ⟨w.heap.size + 1, 2, none⟩ = some (.slice none 0 0) := by rw [hc_hb1 _ _ (by go_size)]; simp [go_sem]
    have y3 : ∀ o, w1.frozen? ⟨w.heap.size + 1, o, none⟩ = false := fun o => by rw [hf_hb1 _ _ (by go_size)]; simp [go_sem]
    have hl : w.heap.size + 1 < w1.heap.size := by omega
    go_wp2_with fail
    refine (HDO.out _ hw1).mono ?_; rintro e w3 ⟨rfl, hb3⟩
    have hw3 : Below w.heap.size w w3 := hw1.trans (hb3.mono hw1.size)
    have hl3 : w.heap.size + 1 < w3.heap.size := Nat.lt_of_lt_of_le hl hb3.size
    have u0 := (hb3.cell (p := ⟨w.heap.size + 1, 0, none⟩) hl).trans y0
    have u1 := (hb3.cell (p := ⟨w.heap.size + 1, 1, none⟩) hl).trans y1
    have u2 := (hb3.cell (p := ⟨w.heap.size + 1, 2, none⟩) hl).trans y2
    have u3 := fun o => (hb3.frozen (p := ⟨w.heap.size + 1, o, none⟩) hl).trans (y3 o)
    clear x0 x1 y0 y1 y2 y3 hc_hb1 hf_hb1 hcA_hb1 hfA_hb1 hz_hb1 hz0_hb1 hz1_hb1 hb1 hb3
    go_wp2_with fail
    refine bodyPost_ret (v := .tuple #[.agg #[.int .i64 0, .slice none 0 0, .slice none 0 0], .int .i64 5]) (by simp [*, results, Tryd.results12, go_sem]) rfl ?_
    exact outPv_err (by (repeat' (first | (with_reducible exact Below.refl _ _) | (with_reducible assumption) | (with_reducible refine Below.alloc ?_ ?_ _) | (with_reducible refine Below.drew ?_) | (with_reducible refine below_drewN ?_ _) | (with_reducible refine Below.setCell ?_ ?_ _) | (with_reducible refine Below.trans ?_ (Below.mono (by with_reducible assumption) ?_)) | (with_reducible exact Below.size (by with_reducible assumption)) | go_size)))
  · rw [pvOut_ok hc0 hm]
    have HDO := Lib.hid (fun (w' : World) (h : Below w.heap.size w w') => l04Pivot_ok (.slice a1 M.length c1) (.slice a2 Q.length c2) M Q s w' (g1 w' h) (g2 w' h) hp hs0 hs1 hm)
    clear hp hs0 hs1 hc0 hm
    generalize pvD M s = D at *
    generalize tab M.length (pvR M s) = R at *
    generalize (List.range M.length).map (pvS M Q s) = S at *
    go_enter Tryd.func12, Tryd.ntmps12
    go_wp2_with fail
    refine (l02Code_any _ _ M Q s _ (g1 _ (by (repeat' (first | (with_reducible exact Below.refl _ _) | (with_reducible assumption) | (with_reducible refine Below.alloc ?_ ?_ _) | (with_reducible refine Below.drew ?_) | (with_reducible refine below_drewN ?_ _) | (with_reducible refine Below.setCell ?_ ?_ _) | (with_reducible refine Below.trans ?_ (Below.mono (by with_reducible assumption) ?_)) | (with_reducible exact Below.size (by with_reducible assumption)) | go_size)))) (g2 _ (by (repeat' (first | (with_reducible exact Below.refl _ _) | (with_reducible assumption) | (with_reducible refine Below.alloc ?_ ?_ _) | (with_reducible refine Below.drew ?_) | (with_reducible refine below_drewN ?_ _) | (with_reducible refine Below.setCell ?_ ?_ _) | (with_reducible refine Below.trans ?_ (Below.mono (by with_reducible assumption) ?_)) | (with_reducible exact Below.size (by with_reducible assumption)) | go_size))))).mono ?_; rw [HC0.out]; rintro e w1 ⟨rfl, hb1⟩; obtain ⟨hc_hb1, hf_hb1⟩ := bcell hb1; obtain ⟨hcA_hb1, hfA_hb1⟩ := bcellG (W0 := w) hb1 (by (repeat' (first | (with_reducible exact Below.refl _ _) | (with_reducible assumption) | (with_reducible refine Below.alloc ?_ ?_ _) | (with_reducible refine Below.drew ?_) | (with_reducible refine below_drewN ?_ _) | (with_reducible refine Below.setCell ?_ ?_ _) | (with_reducible refine Below.trans ?_ (Below.mono (by with_reducible assumption) ?_)) | (with_reducible exact Below.size (by with_reducible assumption)) | go_size))); have hz_hb1 := hb1.size; (try simp at hz_hb1); (try simp only [Nat.add_one_le_iff] at hz_hb1); have hz0_hb1 : w.heap.size < w1.heap.size := (by omega); have hz1_hb1 : w.heap.size + 1 < w1.heap.size := (by omega)
    have hw1 : Below w.heap.size w w1 := by (repeat' (first | (with_reducible exact Below.refl _ _) | (with_reducible assumption) | (with_reducible refine Below.alloc ?_ ?_ _) | (with_reducible refine Below.drew ?_) | (with_reducible refine below_drewN ?_ _) | (with_reducible refine Below.setCell ?_ ?_ _) | (with_reducible refine Below.trans ?_ (Below.mono (by with_reducible assumption) ?_)) | (with_reducible exact Below.size (by with_reducible assumption)) | go_size))
    have x0 : w1.cell? ⟨w.heap.size, 0, none⟩ = some (.slice a1 M.length c1) := by rw [hc_hb1 _ _ (by go_size)]; simp [go_sem]
    have x1 : w1.cell? ⟨w.heap.size, 1, none⟩ = some (.slice a2 Q.length c2) := by rw [hc_hb1 _ _ (by go_size)]; simp [go_sem]
    have y0 : w1.cell? ⟨w.heap.size + 1, 0, none⟩ = some (.int .i64 0) := by rw [hc_hb1 _ _ (by go_size)]; simp [go_sem]
    have y1 : w1.cell? ⟨w.heap.size + 1, 1, none⟩ = some (.slice none 0 0) := by rw [hc_hb1 _ _ (by go_size)]; simp [go_sem]
    have y2 : w1.cell? ⟨w.heap.size + 1, 2, none⟩ = some (.slice none 0 0) := by rw [hc_hb1 _ _ (by go_size)]; simp [go_sem]
    have y3 : ∀ o, w1.frozen? ⟨w.heap.size + 1, o, none⟩ = false := fun o => by rw [hf_hb1 _ _ (by go_size)]; simp [go_sem]
    have hl : w.heap.size + 1 < w1.heap.size := by omega
    go_wp2_with fail
    refine (HDO.out _ hw1).mono ?_; rintro e w3 ⟨a, k, a', k', us, rfl, hM, hb3⟩
    have hw3 : Below w.heap.size w w3 := hw1.trans (hb3.mono hw1.size)
    have hl3 : w.heap.size + 1 < w3.heap.size := Nat.lt_of_lt_of_le hl hb3.size
    have u0 := (hb3.cell (p := ⟨w.heap.size + 1, 0, none⟩) hl).trans y0
    have u1 := (hb3.cell (p := ⟨w.heap.size + 1, 1, none⟩) hl).trans y1
    have u2 := (hb3.cell (p := ⟨w.heap.size + 1, 2, none⟩) hl).trans y2
    have u3 := fun o => (hb3.frozen (p := ⟨w.heap.size + 1, o, none⟩) hl).trans (y3 o)
    have HM2 := Lib.hid hM
    clear x0 x1 y0 y1 y2 y3 hc_hb1 hf_hb1 hcA_hb1 hfA_hb1 hz_hb1 hz0_hb1 hz1_hb1 hb1 hb3 hM
    go_wp2_with fail
    refine bodyPost_ret (v := .tuple #[.agg #[.int .i64 D, .slice a R.length k, .slice a' S.length k'], .int .i64 0]) (by simp [*, results, Tryd.results12, go_sem]) rfl ?_
    obtain ⟨W4, hW4⟩ : ∃ W4, W4 = ((w3.setCell ⟨w.heap.size + 1, 0, none⟩ (.int .i64 D)).setCell ⟨w.heap.size + 1, 1, none⟩ (.slice a R.length k)).setCell ⟨w.heap.size + 1, 2, none⟩ (.slice a' S.length k') := ⟨_, rfl⟩
    have ht : Tch [w.heap.size + 1] w3 W4 := by rw [hW4]; exact (((Tch.refl _ _).setCell (by simp) _).setCell (by simp) _).setCell (by simp) _
    rw [← hW4]
    have hal : Below W4.heap.size W4 (W4.alloc (.cells #[.int .i64 D, .slice a R.length k, .slice a' S.length k'] 28)) := (Below.refl _ _).alloc (Nat.le_refl _) _
    have hw4 : Below w.heap.size w W4 := hw3.trans (ht.below (fun b hb => by simp at hb; omega))
    exact ⟨a, k, a', k', us, rfl, ((HM2.out.old ht (fun b hb => by simp at hb; omega)).below hal).mono (by omega), hw4.trans (hal.mono hw4.size)⟩
end Go.Proofs.YthnefjllijoobaaDoor.PW
