/-
  The exact law of PivotMinor: both sides' answers, and the law.
-/
import Derived.Test.YthnefjllijoobaaDoorQPDet
import Derived.Test.YthnefjllijoobaaDoorRDoor
namespace Go.Proofs.YthnefjllijoobaaDoor.PW
open Go.RowKit Go.Proofs.YthnefjllijoobaaDoor
open Go.Proofs.YthnefjllijoobaaDoor.PM Go.Proofs.YthnefjllijoobaaDoor.PX

/-- The minor of a set. -/
def mnr (M : List (List Int)) (s : Int) : Int := dt (memTo M.length s M.length).length (ent (partL M s s))
def xorI (s t : Int) : Int := bits BinOp.xor IntKind.i64 s t
theorem xor_dec : ∀ (n : Fin 6) (x y : Fin 32), (x.val : Int) < 2 ^ n.val → (y.val : Int) < 2 ^ n.val → 0 ≤ xorI (x.val : Int) (y.val : Int) ∧ xorI (x.val : Int) (y.val : Int) < 2 ^ n.val := by decide +kernel
theorem pow_32 {n : Nat} (hn : n ≤ 5) : (2 : Int) ^ n ≤ 32 := by
  obtain rfl | rfl | rfl | rfl | rfl | rfl : n = 0 ∨ n = 1 ∨ n = 2 ∨ n = 3 ∨ n = 4 ∨ n = 5 := by omega
  all_goals decide
theorem xor_in {n : Nat} {s t : Int} (hn : n ≤ 5) (hs0 : 0 ≤ s) (hs1 : s < 2 ^ n) (ht0 : 0 ≤ t) (ht1 : t < 2 ^ n) : 0 ≤ xorI s t ∧ xorI s t < 2 ^ n := by
  have hp := pow_32 hn
  obtain ⟨a, rfl⟩ := Int.eq_ofNat_of_zero_le hs0
  obtain ⟨b, rfl⟩ := Int.eq_ofNat_of_zero_le ht0
  have ha : a < 32 := by omega
  have hb : b < 32 := by omega
  exact xor_dec ⟨n, by omega⟩ ⟨a, ha⟩ ⟨b, hb⟩ hs1 ht1
def pmOut (M : List (List Int)) (Q : List Int) (s t : Int) : Int × Int × Int :=
  if setCode M Q s ≠ 0 then (0, 0, setCode M Q s) else if setCode M Q t ≠ 0 then (0, 0, setCode M Q t) else if mnr M s = 0 then (0, 0, 5) else (mnr M (xorI s t), mnr M s, 0)
theorem pmOut_e1 {M : List (List Int)} {Q : List Int} {s t c : Int} (h : setCode M Q s = c) (hc : c ≠ 0) : pmOut M Q s t = (0, 0, c) := by unfold pmOut; rw [if_pos (by omega), h]
theorem pmOut_e2 {M : List (List Int)} {Q : List Int} {s t c : Int} (h0 : setCode M Q s = 0) (h : setCode M Q t = c) (hc : c ≠ 0) : pmOut M Q s t = (0, 0, c) := by unfold pmOut; rw [if_neg (by omega), if_pos (by omega), h]
theorem pmOut_e3 {M : List (List Int)} {Q : List Int} {s t : Int} (h0 : setCode M Q s = 0) (h : setCode M Q t = 0) (hm : mnr M s = 0) : pmOut M Q s t = (0, 0, 5) := by unfold pmOut; rw [if_neg (by omega), if_neg (by omega), if_pos hm]
theorem pmOut_ok {M : List (List Int)} {Q : List Int} {s t : Int} (h0 : setCode M Q s = 0) (h : setCode M Q t = 0) (hm : mnr M s ≠ 0) : pmOut M Q s t = (mnr M (xorI s t), mnr M s, 0) := by unfold pmOut; rw [if_neg (by omega), if_neg (by omega), if_neg hm]
/-- What a function leaves that returns two numbers and a code. -/
def OutN3 (w : World) (o : Int × Int × Int) (e : Ending) (w' : World) : Prop := e = .returned (.tuple #[.int .i64 o.1, .int .i64 o.2.1, .int .i64 o.2.2]) ∧ Below w.heap.size w w'

/-- The part of a matrix by a set, and its determinant, in the program. -/
theorem matAll {M : List (List Int)} {Q : List Int} (hp : isPB M Q = true) : ∀ a b, Bd 20 (ent M a b) := by
  obtain ⟨_, _, _, f4, _⟩ := isPB_facts hp
  exact ent_bdAll (B := fun _ => 20) rfl (fun i hi => (f4 i hi).1) (fun _ => by decide) (fun i j hi hj => by have := ent_bd hp i j hi hj; unfold Bd; omega)
theorem rows_head {w : World} {m : Value} {M : List (List Int)} (h : PM.Rows w m M) (hn : 1 ≤ M.length) : ∃ b off c, m = .slice (some ⟨b, off, none⟩) M.length c ∧ b < w.heap.size := by
  obtain ⟨a, c, rfl, _, _, hx⟩ := h
  rcases hx with hx | ⟨b, off, rfl, hb, _⟩
  · rw [hx] at hn; simp at hn
  · exact ⟨b, off, c, rfl, hb⟩
theorem part_any (m : Value) (M : List (List Int)) (Q : List Int) (s : Int) (w : World) (h1 : PM.Rows w m M) (hp : isPB M Q = true) (hs0 : 0 ≤ s) (hs1 : s < 2 ^ M.length) :
    Calls Tryd.prog 63 #[m, .int .i64 s, .int .i64 s] w fun e w' => ∃ v, e = .returned v ∧ PM.Rows w' v (partL M s s) ∧ Below w.heap.size w w' := by
  obtain ⟨f1, f2, f3, f4, f5⟩ := isPB_facts hp
  obtain ⟨b, off, c, rfl, _⟩ := rows_head h1 f1
  refine (callsIn_wide.1 (partOf_ok b off c M s s w h1 f2 (fun j hj => (f4 j hj).1) hs0 hs1 hs0 hs1)).mono ?_
  rintro e w' ⟨v, us, rfl, ho, hb⟩
  exact ⟨v, rfl, ho.rows.rows' (partL_I64 (matAll hp) s s), hb⟩

set_option maxHeartbeats 1000000 in
theorem basicMinor_ok (m : Value) (M : List (List Int)) (Q : List Int) (s : Int) (w : World) (h1 : PM.Rows w m M) (hp : isPB M Q = true) (hs0 : 0 ≤ s) (hs1 : s < 2 ^ M.length) (hm : mnr M s ≠ 0) :
    Calls Tryd.prog 61 #[m, .int .i64 s] w fun e w' => e = .returned (.int .i64 (mnr M s)) ∧ Below w.heap.size w w' := by
  have HP := Lib.hid (fun w h => part_any m M Q s w h hp hs0 hs1)
  have HD := Lib.hid (fun v w hv => partDet v M s s w hv (isPB_facts hp).2.1 (matAll hp) rfl)
  have g1 := fun (w' : World) (h : Below w.heap.size w w') => h1.below h
  obtain ⟨a1, c1, rfl, _⟩ := h1
  obtain ⟨D, hD⟩ : ∃ D, D = mnr M s := ⟨_, rfl⟩
  have HD : Hid (∀ v w, PM.Rows w v (partL M s s) → Calls Tryd.prog 62 #[v] w fun e w' => e = .returned (.int .i64 D) ∧ Below w.heap.size w w') := Lib.hid (fun v w hv => by rw [hD]; exact HD.out v w hv)
  rw [← hD] at hm ⊢
  clear hp hs0 hs1 hD
  go_enter Tryd.func61, Tryd.ntmps61
  go_wp2_with fail
  refine (HP.out _ (g1 _ (by (repeat' (first | (with_reducible exact Below.refl _ _) | (with_reducible assumption) | (with_reducible refine Below.alloc ?_ ?_ _) | (with_reducible refine Below.drew ?_) | (with_reducible refine below_drewN ?_ _) | (with_reducible refine Below.setCell ?_ ?_ _) | (with_reducible refine Below.trans ?_ (Below.mono (by with_reducible assumption) ?_)) | (with_reducible exact Below.size (by with_reducible assumption)) | go_size))))).mono ?_; rintro e w1 ⟨v, rfl, hr, hb1⟩
  have HDD := Lib.hid (HD.out _ _ hr)
  clear hr
  go_wp2_with fail
  refine HDD.out.mono ?_; rintro e w2 ⟨rfl, hb2⟩
  go_wp2_with fail
  go_ret
  exact ⟨rfl, hb1.trans (hb2.mono hb1.size)⟩
set_option maxHeartbeats 1000000 in
theorem basicMinor_no (m : Value) (M : List (List Int)) (Q : List Int) (s : Int) (w : World) (hG : Glob w) (h1 : PM.Rows w m M) (hp : isPB M Q = true) (hs0 : 0 ≤ s) (hs1 : s < 2 ^ M.length) (hm : mnr M s = 0) :
    Calls Tryd.prog 61 #[m, .int .i64 s] w fun e w' => (∃ a, e = .panicked [{ v := .iface 105 (.pointer (some a)), recovered := false }]) ∧ Below w.heap.size w w' := by
  have HP := Lib.hid (fun w h => part_any m M Q s w h hp hs0 hs1)
  have HD := Lib.hid (fun v w hv => partDet v M s s w hv (isPB_facts hp).2.1 (matAll hp) rfl)
  have g1 := fun (w' : World) (h : Below w.heap.size w w') => h1.below h
  have gg := fun (w' : World) (h : Below w.heap.size w w') => hG.below h
  obtain ⟨a1, c1, rfl, _⟩ := h1
  have HD : Hid (∀ v w, PM.Rows w v (partL M s s) → Calls Tryd.prog 62 #[v] w fun e w' => e = .returned (.int .i64 0) ∧ Below w.heap.size w w') := Lib.hid (fun v w hv => by rw [← hm]; exact HD.out v w hv)
  clear hp hs0 hs1 hm hG
  go_enter Tryd.func61, Tryd.ntmps61
  go_wp2_with fail
  refine (HP.out _ (g1 _ (by (repeat' (first | (with_reducible exact Below.refl _ _) | (with_reducible assumption) | (with_reducible refine Below.alloc ?_ ?_ _) | (with_reducible refine Below.drew ?_) | (with_reducible refine below_drewN ?_ _) | (with_reducible refine Below.setCell ?_ ?_ _) | (with_reducible refine Below.trans ?_ (Below.mono (by with_reducible assumption) ?_)) | (with_reducible exact Below.size (by with_reducible assumption)) | go_size))))).mono ?_; rintro e w1 ⟨v, rfl, hr, hb1⟩
  have HDD := Lib.hid (HD.out _ _ hr)
  clear hr
  go_wp2_with fail
  refine HDD.out.mono ?_; rintro e w2 ⟨rfl, hb2⟩
  have hw2 : Below w.heap.size w w2 := hb1.trans (hb2.mono hb1.size)
  obtain ⟨a, ha⟩ := gg _ hw2
  go_wp2_with fail
  exact ⟨rfl, ⟨_, rfl⟩, hw2⟩

/-- The work behind the door. -/
theorem pmWork_ok (Bp Bs : Nat) (m : Value) (M : List (List Int)) (Q : List Int) (s : Int) (w : World) (h1 : PM.Rows w m M) (hp : isPB M Q = true) (hs0 : 0 ≤ s) (hs1 : s < 2 ^ M.length) (hm : mnr M s ≠ 0)
    (c0 : w.cell? ⟨Bp, 0, none⟩ = some m) (c1 : w.cell? ⟨Bs, 0, none⟩ = some (.int .i64 s)) :
    Calls Tryd.prog 60 #[.pointer (some ⟨Bp, 0, none⟩), .pointer (some ⟨Bs, 0, none⟩)] w fun e w' => (∃ v, e = .returned v ∧ v = .int .i64 (mnr M s)) ∧ Below w.heap.size w w' := by
  have HB := Lib.hid (basicMinor_ok m M Q s w h1 hp hs0 hs1 hm)
  obtain ⟨a1, cc, rfl, _⟩ := h1
  clear hp hs0 hs1 hm
  generalize mnr M s = D at *
  go_enter Tryd.func60, Tryd.ntmps60
  go_wp2_with fail
  refine HB.out.mono ?_; rintro e w1 ⟨rfl, hb1⟩
  go_wp2_with fail
  go_ret
  exact ⟨⟨_, rfl, rfl⟩, hb1⟩
theorem pmWork_no (Bp Bs : Nat) (m : Value) (M : List (List Int)) (Q : List Int) (s : Int) (w : World) (hG : Glob w) (h1 : PM.Rows w m M) (hp : isPB M Q = true) (hs0 : 0 ≤ s) (hs1 : s < 2 ^ M.length) (hm : mnr M s = 0)
    (c0 : w.cell? ⟨Bp, 0, none⟩ = some m) (c1 : w.cell? ⟨Bs, 0, none⟩ = some (.int .i64 s)) :
    Calls Tryd.prog 60 #[.pointer (some ⟨Bp, 0, none⟩), .pointer (some ⟨Bs, 0, none⟩)] w fun e w' => (∃ a, e = .panicked [{ v := .iface 105 (.pointer (some a)), recovered := false }]) ∧ Below w.heap.size w w' := by
  have HB := Lib.hid (basicMinor_no m M Q s w hG h1 hp hs0 hs1 hm)
  obtain ⟨a1, cc, rfl, _⟩ := h1
  clear hp hs0 hs1 hm hG
  go_enter Tryd.func60, Tryd.ntmps60
  go_wp2_with fail
  refine HB.out.mono ?_; rintro e w1 ⟨⟨a, rfl⟩, hb1⟩
  go_wp2_with fail
  exact ⟨rfl, ⟨_, rfl⟩, hb1⟩
theorem box_size (w : World) (o : Obj) : (w.alloc o).heap.size = w.heap.size + 1 := by simp
/-- The door with this work: the minor. -/
theorem doorN_minor (Bp Bs : Nat) (m : Value) (M : List (List Int)) (Q : List Int) (s : Int) (w : World) (h1 : PM.Rows w m M) (hp : isPB M Q = true) (hs0 : 0 ≤ s) (hs1 : s < 2 ^ M.length) (hm : mnr M s ≠ 0)
    (c0 : w.cell? ⟨Bp, 0, none⟩ = some m) (c1 : w.cell? ⟨Bs, 0, none⟩ = some (.int .i64 s)) :
    Calls Tryd.prog 59 #[.int .i64 5, .func (.func 60) #[] #[.pointer (some ⟨Bp, 0, none⟩), .pointer (some ⟨Bs, 0, none⟩)]] w fun e w' => e = .returned (.tuple #[.int .i64 (mnr M s), .int .i64 0]) ∧ Below w.heap.size w w' := by
  have hb := DW1.low 5 w
  have hw := pmWork_ok Bp Bs m M Q s (DW1 5 w) (h1.below hb) hp hs0 hs1 hm ((hb.cell (p := ⟨Bp, 0, none⟩) (World.block_lt_of_cell? w _ c0)).trans c0) ((hb.cell (p := ⟨Bs, 0, none⟩) (World.block_lt_of_cell? w _ c1)).trans c1)
  rw [DW1.size] at hw
  refine (doorN_ok 5 _ w (fun v _ => v = .int .i64 (mnr M s)) hw).mono ?_
  rintro e w' ⟨v, W', rfl, rfl, hb', rfl⟩
  exact ⟨rfl, (hb.trans (hb'.mono (by omega))).setCell (by simp) _⟩
theorem doorN_none (Bp Bs : Nat) (m : Value) (M : List (List Int)) (Q : List Int) (s : Int) (w : World) (hG : Glob w) (h1 : PM.Rows w m M) (hp : isPB M Q = true) (hs0 : 0 ≤ s) (hs1 : s < 2 ^ M.length) (hm : mnr M s = 0)
    (c0 : w.cell? ⟨Bp, 0, none⟩ = some m) (c1 : w.cell? ⟨Bs, 0, none⟩ = some (.int .i64 s)) :
    Calls Tryd.prog 59 #[.int .i64 5, .func (.func 60) #[] #[.pointer (some ⟨Bp, 0, none⟩), .pointer (some ⟨Bs, 0, none⟩)]] w fun e w' => e = .returned (.tuple #[.int .i64 0, .int .i64 5]) ∧ Below w.heap.size w w' := by
  have hb := DW1.low 5 w
  have hw := pmWork_no Bp Bs m M Q s (DW1 5 w) (hG.below hb) (h1.below hb) hp hs0 hs1 hm ((hb.cell (p := ⟨Bp, 0, none⟩) (World.block_lt_of_cell? w _ c0)).trans c0) ((hb.cell (p := ⟨Bs, 0, none⟩) (World.block_lt_of_cell? w _ c1)).trans c1)
  rw [DW1.size] at hw
  exact doorN_panic 5 _ w hw

set_option maxHeartbeats 4000000 in
theorem implPivotMinor_any (m q : Value) (M : List (List Int)) (Q : List Int) (s t : Int) (w : World) (hG : Glob w) (h1 : PM.Rows w m M) (h2 : Ints w q Q) :
    Calls Tryd.prog 26 #[.agg #[m, q], .int .i64 s, .int .i64 t] w (OutN3 w (pmOut M Q s t)) := by
  have hmf : ∀ (fn : Fn) (first cap : Array Value) (w : World), (Instr.makeFunc fn first cap).run Tryd.prog w = .ok (.func fn first cap) w := fun _ _ _ _ => rfl
  have g1 := fun (w' : World) (h : Below w.heap.size w w') => h1.below h
  have g2 := fun (w' : World) (h : Below w.heap.size w w') => h2.below h
  have gg := fun (w' : World) (h : Below w.heap.size w w') => hG.below h
  clear hG
  obtain ⟨a1, c1, rfl, _⟩ := h1
  obtain ⟨a2, c2, rfl, _⟩ := h2
  obtain ⟨c, hc⟩ : ∃ c, c = setCode M Q s := ⟨_, rfl⟩
  have HC := Lib.hid hc
  by_cases hcz : c ≠ 0
  · rw [pmOut_e1 hc.symm hcz]
    clear hc
    go_enter Tryd.func26, Tryd.ntmps26
    go_wp2_with fail
    refine (checkSet_any _ _ M Q s _ (g1 _ (by (repeat' (first | (with_reducible exact Below.refl _ _) | (with_reducible assumption) | (with_reducible refine Below.alloc ?_ ?_ _) | (with_reducible refine Below.drew ?_) | (with_reducible refine below_drewN ?_ _) | (with_reducible refine Below.setCell ?_ ?_ _) | (with_reducible refine Below.trans ?_ (Below.mono (by with_reducible assumption) ?_)) | (with_reducible exact Below.size (by with_reducible assumption)) | go_size)))) (g2 _ (by (repeat' (first | (with_reducible exact Below.refl _ _) | (with_reducible assumption) | (with_reducible refine Below.alloc ?_ ?_ _) | (with_reducible refine Below.drew ?_) | (with_reducible refine below_drewN ?_ _) | (with_reducible refine Below.setCell ?_ ?_ _) | (with_reducible refine Below.trans ?_ (Below.mono (by with_reducible assumption) ?_)) | (with_reducible exact Below.size (by with_reducible assumption)) | go_size))))).mono ?_; rw [← HC.out]; rintro e w1 ⟨rfl, hb1⟩; obtain ⟨hc_hb1, hf_hb1⟩ := bcell hb1; obtain ⟨hcA_hb1, hfA_hb1⟩ := bcellG (W0 := w) hb1 (by (repeat' (first | (with_reducible exact Below.refl _ _) | (with_reducible assumption) | (with_reducible refine Below.alloc ?_ ?_ _) | (with_reducible refine Below.drew ?_) | (with_reducible refine below_drewN ?_ _) | (with_reducible refine Below.setCell ?_ ?_ _) | (with_reducible refine Below.trans ?_ (Below.mono (by with_reducible assumption) ?_)) | (with_reducible exact Below.size (by with_reducible assumption)) | go_size))); have hz_hb1 := hb1.size; (try simp at hz_hb1); (try simp only [Nat.add_one_le_iff] at hz_hb1); have hz0_hb1 : w.heap.size < w1.heap.size := (by omega)
    go_wp2_with fail
    go_ret3
    exact ⟨rfl, by (repeat' (first | (with_reducible exact Below.refl _ _) | (with_reducible assumption) | (with_reducible refine Below.alloc ?_ ?_ _) | (with_reducible refine Below.drew ?_) | (with_reducible refine below_drewN ?_ _) | (with_reducible refine Below.setCell ?_ ?_ _) | (with_reducible refine Below.trans ?_ (Below.mono (by with_reducible assumption) ?_)) | (with_reducible exact Below.size (by with_reducible assumption)) | go_size))⟩
  have hc0 : setCode M Q s = 0 := by omega
  obtain ⟨hp, hs0, hs1⟩ : isPB M Q = true ∧ 0 ≤ s ∧ s < 2 ^ M.length := by
    rcases setCode_cases M Q s with h | h | ⟨_, h⟩
    · omega
    · omega
    · exact h
  have HP := Lib.hid hp
  have f2 := (isPB_facts hp).2.1
  have HS := Lib.hid (And.intro hs0 hs1)
  have HC0 := Lib.hid hc0
  clear hc hcz HC
  by_cases ht : 0 ≤ t ∧ t < (2 : Int) ^ M.length
  case neg =>
    rw [pmOut_e2 hc0 (setCode_err2 hp (show t < 0 ∨ (2 : Int) ^ M.length ≤ t by omega)) (by decide)]
    have HT := Lib.hid (fun w => isSet_is t M.length false w f2 (decide_eq_false ht))
    clear hp hs0 hs1 ht hc0
    go_enter Tryd.func26, Tryd.ntmps26
    go_wp2_with fail
    refine (checkSet_any _ _ M Q s _ (g1 _ (by (repeat' (first | (with_reducible exact Below.refl _ _) | (with_reducible assumption) | (with_reducible refine Below.alloc ?_ ?_ _) | (with_reducible refine Below.drew ?_) | (with_reducible refine below_drewN ?_ _) | (with_reducible refine Below.setCell ?_ ?_ _) | (with_reducible refine Below.trans ?_ (Below.mono (by with_reducible assumption) ?_)) | (with_reducible exact Below.size (by with_reducible assumption)) | go_size)))) (g2 _ (by (repeat' (first | (with_reducible exact Below.refl _ _) | (with_reducible assumption) | (with_reducible refine Below.alloc ?_ ?_ _) | (with_reducible refine Below.drew ?_) | (with_reducible refine below_drewN ?_ _) | (with_reducible refine Below.setCell ?_ ?_ _) | (with_reducible refine Below.trans ?_ (Below.mono (by with_reducible assumption) ?_)) | (with_reducible exact Below.size (by with_reducible assumption)) | go_size))))).mono ?_; rw [HC0.out]; rintro e w1 ⟨rfl, hb1⟩; obtain ⟨hc_hb1, hf_hb1⟩ := bcell hb1; obtain ⟨hcA_hb1, hfA_hb1⟩ := bcellG (W0 := w) hb1 (by (repeat' (first | (with_reducible exact Below.refl _ _) | (with_reducible assumption) | (with_reducible refine Below.alloc ?_ ?_ _) | (with_reducible refine Below.drew ?_) | (with_reducible refine below_drewN ?_ _) | (with_reducible refine Below.setCell ?_ ?_ _) | (with_reducible refine Below.trans ?_ (Below.mono (by with_reducible assumption) ?_)) | (with_reducible exact Below.size (by with_reducible assumption)) | go_size))); have hz_hb1 := hb1.size; (try simp at hz_hb1); (try simp only [Nat.add_one_le_iff] at hz_hb1); have hz0_hb1 : w.heap.size < w1.heap.size := (by omega)
    go_wp2_with fail
    refine (HT.out _).mono ?_; rintro e w2 ⟨rfl, rfl⟩
    go_wp2_with fail
    go_ret3
    exact ⟨rfl, by (repeat' (first | (with_reducible exact Below.refl _ _) | (with_reducible assumption) | (with_reducible refine Below.alloc ?_ ?_ _) | (with_reducible refine Below.drew ?_) | (with_reducible refine below_drewN ?_ _) | (with_reducible refine Below.setCell ?_ ?_ _) | (with_reducible refine Below.trans ?_ (Below.mono (by with_reducible assumption) ?_)) | (with_reducible exact Below.size (by with_reducible assumption)) | go_size))⟩
  have hct : setCode M Q t = 0 := setCode_ok hp (show ¬ (t < 0 ∨ (2 : Int) ^ M.length ≤ t) by omega)
  have HT := Lib.hid (fun w => isSet_is t M.length true w f2 (decide_eq_true ht))
  have HX := Lib.hid (xor_in f2 hs0 hs1 ht.1 ht.2)
  by_cases hm : mnr M s = 0
  · rw [pmOut_e3 hc0 hct hm]
    have HM := Lib.hid hm
    clear hp hs0 hs1 ht hc0 hct hm
    go_enter Tryd.func26, Tryd.ntmps26
    go_wp2_with fail
    refine (checkSet_any _ _ M Q s _ (g1 _ (by (repeat' (first | (with_reducible exact Below.refl _ _) | (with_reducible assumption) | (with_reducible refine Below.alloc ?_ ?_ _) | (with_reducible refine Below.drew ?_) | (with_reducible refine below_drewN ?_ _) | (with_reducible refine Below.setCell ?_ ?_ _) | (with_reducible refine Below.trans ?_ (Below.mono (by with_reducible assumption) ?_)) | (with_reducible exact Below.size (by with_reducible assumption)) | go_size)))) (g2 _ (by (repeat' (first | (with_reducible exact Below.refl _ _) | (with_reducible assumption) | (with_reducible refine Below.alloc ?_ ?_ _) | (with_reducible refine Below.drew ?_) | (with_reducible refine below_drewN ?_ _) | (with_reducible refine Below.setCell ?_ ?_ _) | (with_reducible refine Below.trans ?_ (Below.mono (by with_reducible assumption) ?_)) | (with_reducible exact Below.size (by with_reducible assumption)) | go_size))))).mono ?_; rw [HC0.out]; rintro e w1 ⟨rfl, hb1⟩; obtain ⟨hc_hb1, hf_hb1⟩ := bcell hb1; obtain ⟨hcA_hb1, hfA_hb1⟩ := bcellG (W0 := w) hb1 (by (repeat' (first | (with_reducible exact Below.refl _ _) | (with_reducible assumption) | (with_reducible refine Below.alloc ?_ ?_ _) | (with_reducible refine Below.drew ?_) | (with_reducible refine below_drewN ?_ _) | (with_reducible refine Below.setCell ?_ ?_ _) | (with_reducible refine Below.trans ?_ (Below.mono (by with_reducible assumption) ?_)) | (with_reducible exact Below.size (by with_reducible assumption)) | go_size))); have hz_hb1 := hb1.size; (try simp at hz_hb1); (try simp only [Nat.add_one_le_iff] at hz_hb1); have hz0_hb1 : w.heap.size < w1.heap.size := (by omega)
    go_wp2_with fail
    refine (HT.out _).mono ?_; rintro e w2 ⟨rfl, rfl⟩
    have hw1 : Below w.heap.size w w1 := by (repeat' (first | (with_reducible exact Below.refl _ _) | (with_reducible assumption) | (with_reducible refine Below.alloc ?_ ?_ _) | (with_reducible refine Below.drew ?_) | (with_reducible refine below_drewN ?_ _) | (with_reducible refine Below.setCell ?_ ?_ _) | (with_reducible refine Below.trans ?_ (Below.mono (by with_reducible assumption) ?_)) | (with_reducible exact Below.size (by with_reducible assumption)) | go_size))
    have x0 : w1.cell? ⟨w.heap.size, 0, none⟩ = some (.slice a1 M.length c1) := by rw [hc_hb1 _ _ (by go_size)]; simp
    have x1 : w1.cell? ⟨w.heap.size + 1, 0, none⟩ = some (.int .i64 s) := by rw [hc_hb1 _ _ (by go_size)]; simp
    go_wp2_with fail
    refine (doorN_none _ _ _ M Q s _ (gg _ hw1) (g1 _ hw1) HP.out HS.out.1 HS.out.2 HM.out x0 x1).mono ?_; rintro e w3 ⟨rfl, hb3⟩
    go_wp2_with fail
    go_ret3
    exact ⟨rfl, hw1.trans (hb3.mono hw1.size)⟩
  · rw [pmOut_ok hc0 hct hm]
    have HM := Lib.hid hm
    have HQ := Lib.hid (fun w h => part_any (.slice a1 M.length c1) M Q (xorI s t) w h hp HX.out.1 HX.out.2)
    have HD := Lib.hid (fun v w hv => partDet v M (xorI s t) (xorI s t) w hv f2 (matAll hp) rfl)
    clear hp hs0 hs1 ht hc0 hct hm
    go_enter Tryd.func26, Tryd.ntmps26
    go_wp2_with fail
    refine (checkSet_any _ _ M Q s _ (g1 _ (by (repeat' (first | (with_reducible exact Below.refl _ _) | (with_reducible assumption) | (with_reducible refine Below.alloc ?_ ?_ _) | (with_reducible refine Below.drew ?_) | (with_reducible refine below_drewN ?_ _) | (with_reducible refine Below.setCell ?_ ?_ _) | (with_reducible refine Below.trans ?_ (Below.mono (by with_reducible assumption) ?_)) | (with_reducible exact Below.size (by with_reducible assumption)) | go_size)))) (g2 _ (by (repeat' (first | (with_reducible exact Below.refl _ _) | (with_reducible assumption) | (with_reducible refine Below.alloc ?_ ?_ _) | (with_reducible refine Below.drew ?_) | (with_reducible refine below_drewN ?_ _) | (with_reducible refine Below.setCell ?_ ?_ _) | (with_reducible refine Below.trans ?_ (Below.mono (by with_reducible assumption) ?_)) | (with_reducible exact Below.size (by with_reducible assumption)) | go_size))))).mono ?_; rw [HC0.out]; rintro e w1 ⟨rfl, hb1⟩; obtain ⟨hc_hb1, hf_hb1⟩ := bcell hb1; obtain ⟨hcA_hb1, hfA_hb1⟩ := bcellG (W0 := w) hb1 (by (repeat' (first | (with_reducible exact Below.refl _ _) | (with_reducible assumption) | (with_reducible refine Below.alloc ?_ ?_ _) | (with_reducible refine Below.drew ?_) | (with_reducible refine below_drewN ?_ _) | (with_reducible refine Below.setCell ?_ ?_ _) | (with_reducible refine Below.trans ?_ (Below.mono (by with_reducible assumption) ?_)) | (with_reducible exact Below.size (by with_reducible assumption)) | go_size))); have hz_hb1 := hb1.size; (try simp at hz_hb1); (try simp only [Nat.add_one_le_iff] at hz_hb1); have hz0_hb1 : w.heap.size < w1.heap.size := (by omega)
    go_wp2_with fail
    refine (HT.out _).mono ?_; rintro e w2 ⟨rfl, rfl⟩
    have hw1 : Below w.heap.size w w1 := by (repeat' (first | (with_reducible exact Below.refl _ _) | (with_reducible assumption) | (with_reducible refine Below.alloc ?_ ?_ _) | (with_reducible refine Below.drew ?_) | (with_reducible refine below_drewN ?_ _) | (with_reducible refine Below.setCell ?_ ?_ _) | (with_reducible refine Below.trans ?_ (Below.mono (by with_reducible assumption) ?_)) | (with_reducible exact Below.size (by with_reducible assumption)) | go_size))
    have x0 : w1.cell? ⟨w.heap.size, 0, none⟩ = some (.slice a1 M.length c1) := by rw [hc_hb1 _ _ (by go_size)]; simp
    have x1 : w1.cell? ⟨w.heap.size + 1, 0, none⟩ = some (.int .i64 s) := by rw [hc_hb1 _ _ (by go_size)]; simp
    go_wp2_with fail
    refine (doorN_minor _ _ _ M Q s _ (g1 _ hw1) HP.out HS.out.1 HS.out.2 HM.out x0 x1).mono ?_; rintro e w3 ⟨rfl, hb3⟩
    have hw3 : Below w.heap.size w w3 := hw1.trans (hb3.mono hw1.size)
    have y0 := (hb3.cell (p := ⟨w.heap.size, 0, none⟩) (World.block_lt_of_cell? w1 _ x0)).trans x0
    have y1 := (hb3.cell (p := ⟨w.heap.size + 1, 0, none⟩) (World.block_lt_of_cell? w1 _ x1)).trans x1
    clear x0 x1 hc_hb1 hf_hb1 hcA_hb1 hfA_hb1 hz_hb1 hz0_hb1 hb1
    go_wp2_with fail
    refine (HQ.out _ (g1 _ hw3)).mono ?_; rintro e w4 ⟨v, rfl, hr, hb4⟩
    have HDD := Lib.hid (HD.out _ _ hr)
    clear hr
    go_wp2_with fail
    refine HDD.out.mono ?_; rintro e w5 ⟨rfl, hb5⟩
    go_wp2_with fail
    go_ret3
    exact ⟨rfl, hw3.trans ((hb4.trans (hb5.mono hb4.size)).mono hw3.size)⟩

set_option maxHeartbeats 4000000 in
theorem specPivotMinor_any (m q : Value) (M : List (List Int)) (Q : List Int) (s t : Int) (w : World) (h1 : PM.Rows w m M) (h2 : Ints w q Q) :
    Calls Tryd.prog 25 #[.agg #[m, q], .int .i64 s, .int .i64 t] w (OutN3 w (pmOut M Q s t)) := by
  have g1 := fun (w' : World) (h : Below w.heap.size w w') => h1.below h
  have g2 := fun (w' : World) (h : Below w.heap.size w w') => h2.below h
  obtain ⟨a1, c1, rfl, _⟩ := h1
  obtain ⟨a2, c2, rfl, _⟩ := h2
  obtain ⟨c, hc⟩ : ∃ c, c = setCode M Q s := ⟨_, rfl⟩
  have HC := Lib.hid hc
  by_cases hcz : c ≠ 0
  · rw [pmOut_e1 hc.symm hcz]
    clear hc
    go_enter Tryd.func25, Tryd.ntmps25
    go_wp2_with fail
    refine (l02Code_any _ _ M Q s _ (g1 _ (by (repeat' (first | (with_reducible exact Below.refl _ _) | (with_reducible assumption) | (with_reducible refine Below.alloc ?_ ?_ _) | (with_reducible refine Below.drew ?_) | (with_reducible refine below_drewN ?_ _) | (with_reducible refine Below.setCell ?_ ?_ _) | (with_reducible refine Below.trans ?_ (Below.mono (by with_reducible assumption) ?_)) | (with_reducible exact Below.size (by with_reducible assumption)) | go_size)))) (g2 _ (by (repeat' (first | (with_reducible exact Below.refl _ _) | (with_reducible assumption) | (with_reducible refine Below.alloc ?_ ?_ _) | (with_reducible refine Below.drew ?_) | (with_reducible refine below_drewN ?_ _) | (with_reducible refine Below.setCell ?_ ?_ _) | (with_reducible refine Below.trans ?_ (Below.mono (by with_reducible assumption) ?_)) | (with_reducible exact Below.size (by with_reducible assumption)) | go_size))))).mono ?_; rw [← HC.out]; rintro e w1 ⟨rfl, hb1⟩; obtain ⟨hc_hb1, hf_hb1⟩ := bcell hb1; obtain ⟨hcA_hb1, hfA_hb1⟩ := bcellG (W0 := w) hb1 (by (repeat' (first | (with_reducible exact Below.refl _ _) | (with_reducible assumption) | (with_reducible refine Below.alloc ?_ ?_ _) | (with_reducible refine Below.drew ?_) | (with_reducible refine below_drewN ?_ _) | (with_reducible refine Below.setCell ?_ ?_ _) | (with_reducible refine Below.trans ?_ (Below.mono (by with_reducible assumption) ?_)) | (with_reducible exact Below.size (by with_reducible assumption)) | go_size))); have hz_hb1 := hb1.size; (try simp at hz_hb1); (try simp only [Nat.add_one_le_iff] at hz_hb1); have hz0_hb1 : w.heap.size < w1.heap.size := (by omega)
    go_wp2_with fail
    go_ret3
    exact ⟨rfl, by (repeat' (first | (with_reducible exact Below.refl _ _) | (with_reducible assumption) | (with_reducible refine Below.alloc ?_ ?_ _) | (with_reducible refine Below.drew ?_) | (with_reducible refine below_drewN ?_ _) | (with_reducible refine Below.setCell ?_ ?_ _) | (with_reducible refine Below.trans ?_ (Below.mono (by with_reducible assumption) ?_)) | (with_reducible exact Below.size (by with_reducible assumption)) | go_size))⟩
  have hc0 : setCode M Q s = 0 := by omega
  obtain ⟨hp, hs0, hs1⟩ : isPB M Q = true ∧ 0 ≤ s ∧ s < 2 ^ M.length := by
    rcases setCode_cases M Q s with h | h | ⟨_, h⟩
    · omega
    · omega
    · exact h
  have HC0 := Lib.hid hc0
  clear hc hcz HC
  obtain ⟨d, hd⟩ : ∃ d, d = setCode M Q t := ⟨_, rfl⟩
  have HDC := Lib.hid hd
  by_cases hdz : d ≠ 0
  · rw [pmOut_e2 hc0 hd.symm hdz]
    clear hp hs0 hs1 hc0 hd
    go_enter Tryd.func25, Tryd.ntmps25
    go_wp2_with fail
    refine (l02Code_any _ _ M Q s _ (g1 _ (by (repeat' (first | (with_reducible exact Below.refl _ _) | (with_reducible assumption) | (with_reducible refine Below.alloc ?_ ?_ _) | (with_reducible refine Below.drew ?_) | (with_reducible refine below_drewN ?_ _) | (with_reducible refine Below.setCell ?_ ?_ _) | (with_reducible refine Below.trans ?_ (Below.mono (by with_reducible assumption) ?_)) | (with_reducible exact Below.size (by with_reducible assumption)) | go_size)))) (g2 _ (by (repeat' (first | (with_reducible exact Below.refl _ _) | (with_reducible assumption) | (with_reducible refine Below.alloc ?_ ?_ _) | (with_reducible refine Below.drew ?_) | (with_reducible refine below_drewN ?_ _) | (with_reducible refine Below.setCell ?_ ?_ _) | (with_reducible refine Below.trans ?_ (Below.mono (by with_reducible assumption) ?_)) | (with_reducible exact Below.size (by with_reducible assumption)) | go_size))))).mono ?_; rw [HC0.out]; rintro e w1 ⟨rfl, hb1⟩; obtain ⟨hc_hb1, hf_hb1⟩ := bcell hb1; obtain ⟨hcA_hb1, hfA_hb1⟩ := bcellG (W0 := w) hb1 (by (repeat' (first | (with_reducible exact Below.refl _ _) | (with_reducible assumption) | (with_reducible refine Below.alloc ?_ ?_ _) | (with_reducible refine Below.drew ?_) | (with_reducible refine below_drewN ?_ _) | (with_reducible refine Below.setCell ?_ ?_ _) | (with_reducible refine Below.trans ?_ (Below.mono (by with_reducible assumption) ?_)) | (with_reducible exact Below.size (by with_reducible assumption)) | go_size))); have hz_hb1 := hb1.size; (try simp at hz_hb1); (try simp only [Nat.add_one_le_iff] at hz_hb1); have hz0_hb1 : w.heap.size < w1.heap.size := (by omega)
    have hw1 : Below w.heap.size w w1 := by (repeat' (first | (with_reducible exact Below.refl _ _) | (with_reducible assumption) | (with_reducible refine Below.alloc ?_ ?_ _) | (with_reducible refine Below.drew ?_) | (with_reducible refine below_drewN ?_ _) | (with_reducible refine Below.setCell ?_ ?_ _) | (with_reducible refine Below.trans ?_ (Below.mono (by with_reducible assumption) ?_)) | (with_reducible exact Below.size (by with_reducible assumption)) | go_size))
    go_wp2_with fail
    refine (l02Code_any _ _ M Q t _ (g1 _ hw1) (g2 _ hw1)).mono ?_; rw [← HDC.out]; rintro e w2 ⟨rfl, hb2⟩; obtain ⟨hc_hb2, hf_hb2⟩ := bcell hb2; obtain ⟨hcA_hb2, hfA_hb2⟩ := bcellG (W0 := w1) hb2 (by (repeat' (first | (with_reducible exact Below.refl _ _) | (with_reducible assumption) | (with_reducible refine Below.alloc ?_ ?_ _) | (with_reducible refine Below.drew ?_) | (with_reducible refine below_drewN ?_ _) | (with_reducible refine Below.setCell ?_ ?_ _) | (with_reducible refine Below.trans ?_ (Below.mono (by with_reducible assumption) ?_)) | (with_reducible exact Below.size (by with_reducible assumption)) | go_size))); have hz_hb2 := hb2.size; (try simp at hz_hb2); (try simp only [Nat.add_one_le_iff] at hz_hb2); have hz0_hb2 : w.heap.size < w2.heap.size := (by omega)
    go_wp2_with fail
    go_ret3
    exact ⟨rfl, hw1.trans (hb2.mono hw1.size)⟩
  have hd0 : setCode M Q t = 0 := by omega
  obtain ⟨_, ht0, ht1⟩ : isPB M Q = true ∧ 0 ≤ t ∧ t < 2 ^ M.length := by
    rcases setCode_cases M Q t with h | h | ⟨_, h⟩
    · omega
    · omega
    · exact h
  have HD0 := Lib.hid hd0
  have f1 := (isPB_facts hp).1
  have f2 := (isPB_facts hp).2.1
  have hx := xor_in f2 hs0 hs1 ht0 ht1
  have hp32 := pow_32 f2
  have hrl : ∀ j, j < M.length → (M.getD j []).length = M.length := fun j hj => ((isPB_facts hp).2.2.2.1 j hj).1
  have HQ := Lib.hid (fun w h => l01Part_any (.slice a1 M.length c1) M s w h f1 f2 hrl (matAll hp) hs0 (by omega))
  have HQ2 := Lib.hid (fun w h => l01Part_any (.slice a1 M.length c1) M (xorI s t) w h f1 f2 hrl (matAll hp) hx.1 (by omega))
  have HD := Lib.hid (fun w v hr => partL_det (rs := s) (cs := s) (s := w) (v := v) f2 rfl (matAll hp) hr)
  have HD2 := Lib.hid (fun w v hr => partL_det (rs := xorI s t) (cs := xorI s t) (s := w) (v := v) f2 rfl (matAll hp) hr)
  have HI := Lib.hid (partL_I64 (matAll hp) s s)
  have HI2 := Lib.hid (partL_I64 (matAll hp) (xorI s t) (xorI s t))
  obtain ⟨D, hD⟩ : ∃ D, D = mnr M s := ⟨_, rfl⟩
  have HDV : Hid (∀ w v, PM.Rows w v (partL M s s) → Calls Tryd.prog 56 #[v] w fun e w' => e = .returned (.int .i64 D) ∧ Below w.heap.size w w') := Lib.hid (fun w v hr => by rw [hD]; exact HD.out w v hr)
  by_cases hm : D = 0
  · rw [pmOut_e3 hc0 hd0 (by rw [← hD]; exact hm)]
    subst hm
    clear hp hs0 hs1 hc0 hd hd0 hdz ht0 ht1 hx f1 f2 hp32 hrl hD HD
    go_enter Tryd.func25, Tryd.ntmps25
    go_wp2_with fail
    refine (l02Code_any _ _ M Q s _ (g1 _ (by (repeat' (first | (with_reducible exact Below.refl _ _) | (with_reducible assumption) | (with_reducible refine Below.alloc ?_ ?_ _) | (with_reducible refine Below.drew ?_) | (with_reducible refine below_drewN ?_ _) | (with_reducible refine Below.setCell ?_ ?_ _) | (with_reducible refine Below.trans ?_ (Below.mono (by with_reducible assumption) ?_)) | (with_reducible exact Below.size (by with_reducible assumption)) | go_size)))) (g2 _ (by (repeat' (first | (with_reducible exact Below.refl _ _) | (with_reducible assumption) | (with_reducible refine Below.alloc ?_ ?_ _) | (with_reducible refine Below.drew ?_) | (with_reducible refine below_drewN ?_ _) | (with_reducible refine Below.setCell ?_ ?_ _) | (with_reducible refine Below.trans ?_ (Below.mono (by with_reducible assumption) ?_)) | (with_reducible exact Below.size (by with_reducible assumption)) | go_size))))).mono ?_; rw [HC0.out]; rintro e w1 ⟨rfl, hb1⟩; obtain ⟨hc_hb1, hf_hb1⟩ := bcell hb1; obtain ⟨hcA_hb1, hfA_hb1⟩ := bcellG (W0 := w) hb1 (by (repeat' (first | (with_reducible exact Below.refl _ _) | (with_reducible assumption) | (with_reducible refine Below.alloc ?_ ?_ _) | (with_reducible refine Below.drew ?_) | (with_reducible refine below_drewN ?_ _) | (with_reducible refine Below.setCell ?_ ?_ _) | (with_reducible refine Below.trans ?_ (Below.mono (by with_reducible assumption) ?_)) | (with_reducible exact Below.size (by with_reducible assumption)) | go_size))); have hz_hb1 := hb1.size; (try simp at hz_hb1); (try simp only [Nat.add_one_le_iff] at hz_hb1); have hz0_hb1 : w.heap.size < w1.heap.size := (by omega)
    have hw1 : Below w.heap.size w w1 := by (repeat' (first | (with_reducible exact Below.refl _ _) | (with_reducible assumption) | (with_reducible refine Below.alloc ?_ ?_ _) | (with_reducible refine Below.drew ?_) | (with_reducible refine below_drewN ?_ _) | (with_reducible refine Below.setCell ?_ ?_ _) | (with_reducible refine Below.trans ?_ (Below.mono (by with_reducible assumption) ?_)) | (with_reducible exact Below.size (by with_reducible assumption)) | go_size))
    have x0 : w1.cell? ⟨w.heap.size, 0, none⟩ = some (.slice a1 M.length c1) := by rw [hc_hb1 _ _ (by go_size)]; simp
    go_wp2_with fail
    refine (l02Code_any _ _ M Q t _ (g1 _ hw1) (g2 _ hw1)).mono ?_; rw [HD0.out]; rintro e w2 ⟨rfl, hb2⟩
    have hw2 : Below w.heap.size w w2 := hw1.trans (hb2.mono hw1.size)
    have y0 := (hb2.cell (p := ⟨w.heap.size, 0, none⟩) (World.block_lt_of_cell? w1 _ x0)).trans x0
    clear x0 hc_hb1 hf_hb1 hcA_hb1 hfA_hb1 hz_hb1 hz0_hb1 hb1 hb2
    go_wp2_with fail
    refine (HQ.out _ (g1 _ hw2)).mono ?_; rintro e w3 ⟨g, cap, us, rfl, hf, hb3⟩
    have HDD := Lib.hid (HDV.out _ _ (hf.own.rows' HI.out))
    have hw3 : Below w.heap.size w w3 := hw2.trans (hb3.mono hw2.size)
    clear hf hb3
    go_wp2_with fail
    refine HDD.out.mono ?_; rintro e w4 ⟨rfl, hb4⟩
    go_wp2_with fail
    go_ret3
    exact ⟨rfl, hw3.trans (hb4.mono hw3.size)⟩
  · rw [pmOut_ok hc0 hd0 (by rw [← hD]; exact hm), ← hD]
    obtain ⟨D2, hD2⟩ : ∃ D, D = mnr M (xorI s t) := ⟨_, rfl⟩
    have HDV2 : Hid (∀ w v, PM.Rows w v (partL M (xorI s t) (xorI s t)) → Calls Tryd.prog 56 #[v] w fun e w' => e = .returned (.int .i64 D2) ∧ Below w.heap.size w w') := Lib.hid (fun w v hr => by rw [hD2]; exact HD2.out w v hr)
    rw [← hD2]
    clear hp hs0 hs1 hc0 hd hd0 hdz ht0 ht1 hx f1 f2 hp32 hrl hD HD hD2 HD2
    go_enter Tryd.func25, Tryd.ntmps25
    go_wp2_with fail
    refine (l02Code_any _ _ M Q s _ (g1 _ (by (repeat' (first | (with_reducible exact Below.refl _ _) | (with_reducible assumption) | (with_reducible refine Below.alloc ?_ ?_ _) | (with_reducible refine Below.drew ?_) | (with_reducible refine below_drewN ?_ _) | (with_reducible refine Below.setCell ?_ ?_ _) | (with_reducible refine Below.trans ?_ (Below.mono (by with_reducible assumption) ?_)) | (with_reducible exact Below.size (by with_reducible assumption)) | go_size)))) (g2 _ (by (repeat' (first | (with_reducible exact Below.refl _ _) | (with_reducible assumption) | (with_reducible refine Below.alloc ?_ ?_ _) | (with_reducible refine Below.drew ?_) | (with_reducible refine below_drewN ?_ _) | (with_reducible refine Below.setCell ?_ ?_ _) | (with_reducible refine Below.trans ?_ (Below.mono (by with_reducible assumption) ?_)) | (with_reducible exact Below.size (by with_reducible assumption)) | go_size))))).mono ?_; rw [HC0.out]; rintro e w1 ⟨rfl, hb1⟩; obtain ⟨hc_hb1, hf_hb1⟩ := bcell hb1; obtain ⟨hcA_hb1, hfA_hb1⟩ := bcellG (W0 := w) hb1 (by (repeat' (first | (with_reducible exact Below.refl _ _) | (with_reducible assumption) | (with_reducible refine Below.alloc ?_ ?_ _) | (with_reducible refine Below.drew ?_) | (with_reducible refine below_drewN ?_ _) | (with_reducible refine Below.setCell ?_ ?_ _) | (with_reducible refine Below.trans ?_ (Below.mono (by with_reducible assumption) ?_)) | (with_reducible exact Below.size (by with_reducible assumption)) | go_size))); have hz_hb1 := hb1.size; (try simp at hz_hb1); (try simp only [Nat.add_one_le_iff] at hz_hb1); have hz0_hb1 : w.heap.size < w1.heap.size := (by omega)
    have hw1 : Below w.heap.size w w1 := by (repeat' (first | (with_reducible exact Below.refl _ _) | (with_reducible assumption) | (with_reducible refine Below.alloc ?_ ?_ _) | (with_reducible refine Below.drew ?_) | (with_reducible refine below_drewN ?_ _) | (with_reducible refine Below.setCell ?_ ?_ _) | (with_reducible refine Below.trans ?_ (Below.mono (by with_reducible assumption) ?_)) | (with_reducible exact Below.size (by with_reducible assumption)) | go_size))
    have x0 : w1.cell? ⟨w.heap.size, 0, none⟩ = some (.slice a1 M.length c1) := by rw [hc_hb1 _ _ (by go_size)]; simp
    go_wp2_with fail
    refine (l02Code_any _ _ M Q t _ (g1 _ hw1) (g2 _ hw1)).mono ?_; rw [HD0.out]; rintro e w2 ⟨rfl, hb2⟩
    have hw2 : Below w.heap.size w w2 := hw1.trans (hb2.mono hw1.size)
    have y0 := (hb2.cell (p := ⟨w.heap.size, 0, none⟩) (World.block_lt_of_cell? w1 _ x0)).trans x0
    clear x0 hc_hb1 hf_hb1 hcA_hb1 hfA_hb1 hz_hb1 hz0_hb1 hb1 hb2
    go_wp2_with fail
    refine (HQ.out _ (g1 _ hw2)).mono ?_; rintro e w3 ⟨g, cap, us, rfl, hf, hb3⟩
    have HDD := Lib.hid (HDV.out _ _ (hf.own.rows' HI.out))
    have hw3 : Below w.heap.size w w3 := hw2.trans (hb3.mono hw2.size)
    have v0 := (hb3.cell (p := ⟨w.heap.size, 0, none⟩) (World.block_lt_of_cell? w2 _ y0)).trans y0
    clear hf hb3 y0
    go_wp2_with fail
    refine HDD.out.mono ?_; rintro e w4 ⟨rfl, hb4⟩
    have hw4 : Below w.heap.size w w4 := hw3.trans (hb4.mono hw3.size)
    have u0 := (hb4.cell (p := ⟨w.heap.size, 0, none⟩) (World.block_lt_of_cell? w3 _ v0)).trans v0
    clear v0 hb4
    go_wp2_with fail
    refine (HQ2.out _ (g1 _ hw4)).mono ?_; rintro e w5 ⟨g', cap', us', rfl, hf, hb5⟩
    have HDD2 := Lib.hid (HDV2.out _ _ (hf.own.rows' HI2.out))
    have hw5 : Below w.heap.size w w5 := hw4.trans (hb5.mono hw4.size)
    clear hf hb5
    go_wp2_with fail
    refine HDD2.out.mono ?_; rintro e w6 ⟨rfl, hb6⟩
    go_wp2_with fail
    go_ret3
    exact ⟨rfl, hw5.trans (hb6.mono hw5.size)⟩
set_option maxHeartbeats 4000000 in
theorem law_FnExactPivotMinor (m q : Value) (M : List (List Int)) (Q : List Int) (s t : Int) (w : World) (hG : Glob w) (h1 : PM.Rows w m M) (h2 : Ints w q Q) :
    Calls Tryd.prog 6 #[.agg #[m, q], .int .i64 s, .int .i64 t] w fun e w' => e = .returned (.bool true) ∧ Below w.heap.size w w' := by
  have g1 := fun (w' : World) (h : Below w.heap.size w w') => h1.below h
  have gl := fun (w' : World) (h : Below w.heap.size w w') => hG.below h
  clear hG
  have g2 := fun (w' : World) (h : Below w.heap.size w w') => h2.below h
  have I1 := Lib.hid (rows_I64 h1)
  have I2 := Lib.hid (ints_I64 h2)
  obtain ⟨a1, c1, rfl, _⟩ := h1
  obtain ⟨a2, c2, rfl, _⟩ := h2
  by_cases hz : szP M Q 1048576 < 0
  · have e1 := szP_neg hz
    have E1 := Lib.hid e1
    clear hz e1
    go_enter Tryd.func6, Tryd.ntmps6
    go_wp2_with fail
    refine (szProblem_any _ _ M Q _ (g1 _ (by (repeat' (first | (with_reducible exact Below.refl _ _) | (with_reducible assumption) | (with_reducible refine Below.alloc ?_ ?_ _) | (with_reducible refine Below.drew ?_) | (with_reducible refine below_drewN ?_ _) | (with_reducible refine Below.setCell ?_ ?_ _) | (with_reducible refine Below.trans ?_ (Below.mono (by with_reducible assumption) ?_)) | (with_reducible exact Below.size (by with_reducible assumption)) | go_size)))) (g2 _ (by (repeat' (first | (with_reducible exact Below.refl _ _) | (with_reducible assumption) | (with_reducible refine Below.alloc ?_ ?_ _) | (with_reducible refine Below.drew ?_) | (with_reducible refine below_drewN ?_ _) | (with_reducible refine Below.setCell ?_ ?_ _) | (with_reducible refine Below.trans ?_ (Below.mono (by with_reducible assumption) ?_)) | (with_reducible exact Below.size (by with_reducible assumption)) | go_size))))).mono ?_; rw [E1.out]; rintro e w1 ⟨rfl, hb1⟩; obtain ⟨hc_hb1, hf_hb1⟩ := bcell hb1; obtain ⟨hcA_hb1, hfA_hb1⟩ := bcellG (W0 := w) hb1 (by (repeat' (first | (with_reducible exact Below.refl _ _) | (with_reducible assumption) | (with_reducible refine Below.alloc ?_ ?_ _) | (with_reducible refine Below.drew ?_) | (with_reducible refine below_drewN ?_ _) | (with_reducible refine Below.setCell ?_ ?_ _) | (with_reducible refine Below.trans ?_ (Below.mono (by with_reducible assumption) ?_)) | (with_reducible exact Below.size (by with_reducible assumption)) | go_size))); have hz_hb1 := hb1.size; (try simp at hz_hb1); (try simp only [Nat.add_one_le_iff] at hz_hb1); have hz0_hb1 : w.heap.size < w1.heap.size := (by omega)
    go_wp2_with fail
    go_ret
    refine ⟨rfl, ?_⟩
    (repeat' (first | (with_reducible exact Below.refl _ _) | (with_reducible assumption) | (with_reducible refine Below.alloc ?_ ?_ _) | (with_reducible refine Below.drew ?_) | (with_reducible refine below_drewN ?_ _) | (with_reducible refine Below.setCell ?_ ?_ _) | (with_reducible refine Below.trans ?_ (Below.mono (by with_reducible assumption) ?_)) | (with_reducible exact Below.size (by with_reducible assumption)) | go_size))
  obtain ⟨hn1, hn2⟩ := szP_fits hz
  have hle := szP_le M Q
  have HN1 := Lib.hid hn1
  have HN2 := Lib.hid hn2
  clear hn1 hn2
  have hspec := fun (m q : Value) (w : World) (h1 : PM.Rows w m M) (h2 : Ints w q Q) => specPivotMinor_any m q M Q s t w h1 h2
  have himpl := fun (m q : Value) (w : World) (hg : Glob w) (h1 : PM.Rows w m M) (h2 : Ints w q Q) => implPivotMinor_any m q M Q s t w hg h1 h2
  generalize pmOut M Q s t = o at *
  obtain ⟨O, O2, code⟩ := o
  have HS := Lib.hid hspec
  have HI := Lib.hid himpl
  clear hspec himpl
  go_enter Tryd.func6, Tryd.ntmps6
  go_wp2_with fail
  refine (szProblem_any _ _ M Q _ (g1 _ (by (repeat' (first | (with_reducible exact Below.refl _ _) | (with_reducible assumption) | (with_reducible refine Below.alloc ?_ ?_ _) | (with_reducible refine Below.drew ?_) | (with_reducible refine below_drewN ?_ _) | (with_reducible refine Below.setCell ?_ ?_ _) | (with_reducible refine Below.trans ?_ (Below.mono (by with_reducible assumption) ?_)) | (with_reducible exact Below.size (by with_reducible assumption)) | go_size)))) (g2 _ (by (repeat' (first | (with_reducible exact Below.refl _ _) | (with_reducible assumption) | (with_reducible refine Below.alloc ?_ ?_ _) | (with_reducible refine Below.drew ?_) | (with_reducible refine below_drewN ?_ _) | (with_reducible refine Below.setCell ?_ ?_ _) | (with_reducible refine Below.trans ?_ (Below.mono (by with_reducible assumption) ?_)) | (with_reducible exact Below.size (by with_reducible assumption)) | go_size))))).mono ?_; rintro e w1 ⟨rfl, hb1⟩; obtain ⟨hc_hb1, hf_hb1⟩ := bcell hb1; obtain ⟨hcA_hb1, hfA_hb1⟩ := bcellG (W0 := w) hb1 (by (repeat' (first | (with_reducible exact Below.refl _ _) | (with_reducible assumption) | (with_reducible refine Below.alloc ?_ ?_ _) | (with_reducible refine Below.drew ?_) | (with_reducible refine below_drewN ?_ _) | (with_reducible refine Below.setCell ?_ ?_ _) | (with_reducible refine Below.trans ?_ (Below.mono (by with_reducible assumption) ?_)) | (with_reducible exact Below.size (by with_reducible assumption)) | go_size))); have hz_hb1 := hb1.size; (try simp at hz_hb1); (try simp only [Nat.add_one_le_iff] at hz_hb1); have hz0_hb1 : w.heap.size < w1.heap.size := (by omega)
  generalize szP M Q 1048576 = left at *
  have hw1 : Below w.heap.size w w1 := by (repeat' (first | (with_reducible exact Below.refl _ _) | (with_reducible assumption) | (with_reducible refine Below.alloc ?_ ?_ _) | (with_reducible refine Below.drew ?_) | (with_reducible refine below_drewN ?_ _) | (with_reducible refine Below.setCell ?_ ?_ _) | (with_reducible refine Below.trans ?_ (Below.mono (by with_reducible assumption) ?_)) | (with_reducible exact Below.size (by with_reducible assumption)) | go_size))
  go_wp2_with fail
  refine (toProblem_out _ _ M Q _ (g1 _ (by (repeat' (first | (with_reducible exact Below.refl _ _) | (with_reducible assumption) | (with_reducible refine Below.alloc ?_ ?_ _) | (with_reducible refine Below.drew ?_) | (with_reducible refine below_drewN ?_ _) | (with_reducible refine Below.setCell ?_ ?_ _) | (with_reducible refine Below.trans ?_ (Below.mono (by with_reducible assumption) ?_)) | (with_reducible exact Below.size (by with_reducible assumption)) | go_size)))) (g2 _ (by (repeat' (first | (with_reducible exact Below.refl _ _) | (with_reducible assumption) | (with_reducible refine Below.alloc ?_ ?_ _) | (with_reducible refine Below.drew ?_) | (with_reducible refine below_drewN ?_ _) | (with_reducible refine Below.setCell ?_ ?_ _) | (with_reducible refine Below.trans ?_ (Below.mono (by with_reducible assumption) ?_)) | (with_reducible exact Below.size (by with_reducible assumption)) | go_size)))) HN1.out HN2.out).mono ?_; rintro e w2 ⟨gA, gB, us2, rfl, hr2, hb2⟩; obtain ⟨hc_hb2, hf_hb2⟩ := bcell hb2; obtain ⟨hcA_hb2, hfA_hb2⟩ := bcellG (W0 := w1) hb2 (by (repeat' (first | (with_reducible exact Below.refl _ _) | (with_reducible assumption) | (with_reducible refine Below.alloc ?_ ?_ _) | (with_reducible refine Below.drew ?_) | (with_reducible refine below_drewN ?_ _) | (with_reducible refine Below.setCell ?_ ?_ _) | (with_reducible refine Below.trans ?_ (Below.mono (by with_reducible assumption) ?_)) | (with_reducible exact Below.size (by with_reducible assumption)) | go_size))); have hz_hb2 := hb2.size; (try simp at hz_hb2); (try simp only [Nat.add_one_le_iff] at hz_hb2); have hz0_hb2 : w.heap.size < w2.heap.size := (by omega)
  have R2 := Lib.hid (hr2.reads I1.out I2.out)
  clear hr2
  have hw2 : Below w.heap.size w w2 := hw1.trans (hb2.mono hw1.size)
  go_wp2_with fail
  refine (HS.out _ _ _ R2.out.1 R2.out.2).mono ?_; rintro e w3 ⟨rfl, hb3⟩; dsimp only; obtain ⟨hc_hb3, hf_hb3⟩ := bcell hb3; obtain ⟨hcA_hb3, hfA_hb3⟩ := bcellG (W0 := w2) hb3 (by (repeat' (first | (with_reducible exact Below.refl _ _) | (with_reducible assumption) | (with_reducible refine Below.alloc ?_ ?_ _) | (with_reducible refine Below.drew ?_) | (with_reducible refine below_drewN ?_ _) | (with_reducible refine Below.setCell ?_ ?_ _) | (with_reducible refine Below.trans ?_ (Below.mono (by with_reducible assumption) ?_)) | (with_reducible exact Below.size (by with_reducible assumption)) | go_size))); have hz_hb3 := hb3.size; (try simp at hz_hb3); (try simp only [Nat.add_one_le_iff] at hz_hb3); have hz0_hb3 : w.heap.size < w3.heap.size := (by omega)
  clear R2
  have hw3 : Below w.heap.size w w3 := hw2.trans (hb3.mono hw2.size)
  go_wp2_with fail
  refine (toProblem_out _ _ M Q _ (g1 _ (by (repeat' (first | (with_reducible exact Below.refl _ _) | (with_reducible assumption) | (with_reducible refine Below.alloc ?_ ?_ _) | (with_reducible refine Below.drew ?_) | (with_reducible refine below_drewN ?_ _) | (with_reducible refine Below.setCell ?_ ?_ _) | (with_reducible refine Below.trans ?_ (Below.mono (by with_reducible assumption) ?_)) | (with_reducible exact Below.size (by with_reducible assumption)) | go_size)))) (g2 _ (by (repeat' (first | (with_reducible exact Below.refl _ _) | (with_reducible assumption) | (with_reducible refine Below.alloc ?_ ?_ _) | (with_reducible refine Below.drew ?_) | (with_reducible refine below_drewN ?_ _) | (with_reducible refine Below.setCell ?_ ?_ _) | (with_reducible refine Below.trans ?_ (Below.mono (by with_reducible assumption) ?_)) | (with_reducible exact Below.size (by with_reducible assumption)) | go_size)))) HN1.out HN2.out).mono ?_; rintro e w4 ⟨gC, gD, us4, rfl, hr4, hb4⟩; obtain ⟨hc_hb4, hf_hb4⟩ := bcell hb4; obtain ⟨hcA_hb4, hfA_hb4⟩ := bcellG (W0 := w3) hb4 (by (repeat' (first | (with_reducible exact Below.refl _ _) | (with_reducible assumption) | (with_reducible refine Below.alloc ?_ ?_ _) | (with_reducible refine Below.drew ?_) | (with_reducible refine below_drewN ?_ _) | (with_reducible refine Below.setCell ?_ ?_ _) | (with_reducible refine Below.trans ?_ (Below.mono (by with_reducible assumption) ?_)) | (with_reducible exact Below.size (by with_reducible assumption)) | go_size))); have hz_hb4 := hb4.size; (try simp at hz_hb4); (try simp only [Nat.add_one_le_iff] at hz_hb4); have hz0_hb4 : w.heap.size < w4.heap.size := (by omega)
  have HR4 := Lib.hid hr4
  clear hr4
  have hw4 : Below w.heap.size w w4 := hw3.trans (hb4.mono hw3.size)
  go_wp2_with fail
  have hr4a := HR4.out.below (w' := w4.alloc (.cells #[.slice (some ⟨gC, 0, none⟩) M.length M.length, .slice (some ⟨gD, 0, none⟩) Q.length Q.length] 31)) (B := w4.heap.size) ((Below.refl _ _).alloc (Nat.le_refl _) _) (Nat.le_refl _)
  have R4 := Lib.hid (hr4a.reads I1.out I2.out)
  clear hr4a
  refine (HI.out _ _ _ (gl _ (by (repeat' (first | (with_reducible exact Below.refl _ _) | (with_reducible assumption) | (with_reducible refine Below.alloc ?_ ?_ _) | (with_reducible refine Below.drew ?_) | (with_reducible refine below_drewN ?_ _) | (with_reducible refine Below.setCell ?_ ?_ _) | (with_reducible refine Below.trans ?_ (Below.mono (by with_reducible assumption) ?_)) | (with_reducible exact Below.size (by with_reducible assumption)) | go_size)))) R4.out.1 R4.out.2).mono ?_; rintro e w5 ⟨rfl, hb5⟩; dsimp only; obtain ⟨hc_hb5, hf_hb5⟩ := bcell hb5; obtain ⟨hcA_hb5, hfA_hb5⟩ := bcellG (W0 := w4) hb5 (by (repeat' (first | (with_reducible exact Below.refl _ _) | (with_reducible assumption) | (with_reducible refine Below.alloc ?_ ?_ _) | (with_reducible refine Below.drew ?_) | (with_reducible refine below_drewN ?_ _) | (with_reducible refine Below.setCell ?_ ?_ _) | (with_reducible refine Below.trans ?_ (Below.mono (by with_reducible assumption) ?_)) | (with_reducible exact Below.size (by with_reducible assumption)) | go_size))); have hz_hb5 := hb5.size; (try simp at hz_hb5); (try simp only [Nat.add_one_le_iff] at hz_hb5); have hz0_hb5 : w.heap.size < w5.heap.size := (by omega)
  have hz45 : w4.heap.size < w5.heap.size := by omega
  clear R4
  have hw45 : Below w4.heap.size w4 w5 := ((Below.refl w4.heap.size w4).alloc (Nat.le_refl _) _).trans (hb5.mono (by simp))
  have x50 : w5.cell? ⟨w4.heap.size, 0, none⟩ = some (.slice (some ⟨gC, 0, none⟩) M.length M.length) := by rw [hc_hb5 _ _ (by simp)]; simp
  have x51 : w5.cell? ⟨w4.heap.size, 1, none⟩ = some (.slice (some ⟨gD, 0, none⟩) Q.length Q.length) := by rw [hc_hb5 _ _ (by simp)]; simp
  have hw13 : Below w1.heap.size w1 w3 := hb2.trans (hb3.mono hb2.size)
  have hw35 : Below w3.heap.size w3 w5 := hb4.trans (hw45.mono hb4.size)
  have hw15 : Below w1.heap.size w1 w5 := hw13.trans (hw35.mono hw13.size)
  have hw5 : Below w.heap.size w w5 := hw3.trans (hw35.mono hw3.size)
  have p10 : w1.cell? ⟨w.heap.size, 0, none⟩ = some (.slice a1 M.length c1) := by rw [hc_hb1 _ _ (by simp)]; simp
  have p11 : w1.cell? ⟨w.heap.size, 1, none⟩ = some (.slice a2 Q.length c2) := by rw [hc_hb1 _ _ (by simp)]; simp
  have hvq : Vq w5 w.heap.size w4.heap.size (.slice a1 M.length c1) (.slice a2 Q.length c2) (.slice (some ⟨gC, 0, none⟩) M.length M.length) (.slice (some ⟨gD, 0, none⟩) Q.length Q.length) :=
    ⟨(hw15.cell (p := ⟨w.heap.size, 0, none⟩) hz0_hb1).trans p10, (hw15.cell (p := ⟨w.heap.size, 1, none⟩) hz0_hb1).trans p11, x50, x51, by omega, hz45⟩
  have hX5 := HR4.out.below hw45 (Nat.le_refl _)
  obtain ⟨P, hP⟩ : ∃ P, P = w.heap.size := ⟨_, rfl⟩
  obtain ⟨A1, hA1⟩ : ∃ A1, A1 = w3.heap.size := ⟨_, rfl⟩
  obtain ⟨V, hV⟩ : ∃ V, V = w4.heap.size := ⟨_, rfl⟩
  rw [← hP] at hvq
  rw [← hA1] at hX5
  rw [← hV] at hX5 hvq hz45
  rw [← hP, ← hV]
  clear hP hA1 hV hw13 hw15 hw35 hw45 p10 p11 x50 x51 HR4 hw1 hw2 hw3 hw4 HS
  clear hc_hb1 hf_hb1 hcA_hb1 hfA_hb1 hz_hb1 hz0_hb1 hb1 hc_hb2 hf_hb2 hcA_hb2 hfA_hb2 hz_hb2 hz0_hb2 hb2 hc_hb3 hf_hb3 hcA_hb3 hfA_hb3 hz_hb3 hz0_hb3 hb3 hc_hb4 hf_hb4 hcA_hb4 hfA_hb4 hz_hb4 hz0_hb4 hb4 hc_hb5 hf_hb5 hcA_hb5 hfA_hb5 hz_hb5 hz0_hb5 hb5
  have RX := Lib.hid (hX5.reads I1.out I2.out)
  obtain ⟨k1, k2, k3, k4, l1, l2⟩ := hvq
  have r1 : ∀ w', Below w5.heap.size w5 w' → w'.cell? ⟨P, 0, none⟩ = some (.slice a1 M.length c1) := fun w' h => (h.cell (p := ⟨P, 0, none⟩) (by show P < _; omega)).trans k1
  have r2 : ∀ w', Below w5.heap.size w5 w' → w'.cell? ⟨P, 1, none⟩ = some (.slice a2 Q.length c2) := fun w' h => (h.cell (p := ⟨P, 1, none⟩) (by show P < _; omega)).trans k2
  have r3 : ∀ w', Below w5.heap.size w5 w' → w'.cell? ⟨V, 0, none⟩ = some (.slice (some ⟨gC, 0, none⟩) M.length M.length) := fun w' h => (h.cell (p := ⟨V, 0, none⟩) (by show V < _; omega)).trans k3
  have r4 : ∀ w', Below w5.heap.size w5 w' → w'.cell? ⟨V, 1, none⟩ = some (.slice (some ⟨gD, 0, none⟩) Q.length Q.length) := fun w' h => (h.cell (p := ⟨V, 1, none⟩) (by show V < _; omega)).trans k4
  clear hX5 k1 k2 k3 k4 hz45
  go_wp2_with fail
  go_region_held3 (fun w' => Below w5.heap.size w5 w') ((repeat' (first | (with_reducible exact Below.refl _ _) | (with_reducible assumption) | (with_reducible refine Below.alloc ?_ ?_ _) | (with_reducible refine Below.drew ?_) | (with_reducible refine below_drewN ?_ _) | (with_reducible refine Below.setCell ?_ ?_ _) | (with_reducible refine Below.trans ?_ (Below.mono (by with_reducible assumption) ?_)) | (with_reducible exact Below.size (by with_reducible assumption)) | go_size)))
    (first | (go_at_call 13; refine (toProblem_out _ _ M Q _ (g1 _ (hw5.trans (Below.mono (by assumption) hw5.size))) (g2 _ (hw5.trans (Below.mono (by assumption) hw5.size))) HN1.out HN2.out).mono ?_; rintro e w8 ⟨gE, gF, us8, rfl, hr8, hb8⟩; have hS8 : Below w5.heap.size w5 w8 := (by (repeat' (first | (with_reducible exact Below.refl _ _) | (with_reducible assumption) | (with_reducible refine Below.alloc ?_ ?_ _) | (with_reducible refine Below.drew ?_) | (with_reducible refine below_drewN ?_ _) | (with_reducible refine Below.setCell ?_ ?_ _) | (with_reducible refine Below.trans ?_ (Below.mono (by with_reducible assumption) ?_)) | (with_reducible exact Below.size (by with_reducible assumption)) | go_size))); have R8 := Lib.hid (hr8.reads I1.out I2.out); clear hr8) | (go_at_call 16; refine (eqProblem_same _ _ _ _ M Q _ (RX.out.1.below hS8) (RX.out.2.below hS8) R8.out.1 R8.out.2).mono ?_; rintro e w9 ⟨rfl, hb9⟩; have hS9 : Below w5.heap.size w5 w9 := (by (repeat' (first | (with_reducible exact Below.refl _ _) | (with_reducible assumption) | (with_reducible refine Below.alloc ?_ ?_ _) | (with_reducible refine Below.drew ?_) | (with_reducible refine below_drewN ?_ _) | (with_reducible refine Below.setCell ?_ ?_ _) | (with_reducible refine Below.trans ?_ (Below.mono (by with_reducible assumption) ?_)) | (with_reducible exact Below.size (by with_reducible assumption)) | go_size)))))
  have hw9 : Below w.heap.size w w9 := hw5.trans (hS9.mono hw5.size)
  go_wp2_with fail
  go_ret
  exact ⟨rfl, hw9⟩
end Go.Proofs.YthnefjllijoobaaDoor.PW
