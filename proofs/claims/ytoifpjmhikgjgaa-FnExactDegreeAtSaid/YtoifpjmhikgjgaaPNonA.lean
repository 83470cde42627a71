/-
  Walks: which points have no negative number, in the program and in the model; the solution of a set, in the model.
-/
import Derived.Test.YtoifpjmhikgjgaaPSg
namespace Go.Proofs.Ytoifpjmhikgjgaa.PW
open Go.RowKit Go.Proofs.Ytoifpjmhikgjgaa
open Go.Proofs.Ytoifpjmhikgjgaa.PM Go.Proofs.Ytoifpjmhikgjgaa.PX

def nonneg (xs : List (Int × Int)) : Bool := xs.all fun x => decide (0 ≤ x.1)
theorem nonneg_iff (xs : List (Int × Int)) : nonneg xs = true ↔ ∀ j, j < xs.length → 0 ≤ (xs.getD j (0, 0)).1 := by
  unfold nonneg
  rw [List.all_eq_true]
  constructor
  · intro h j hj
    have := h (xs[j]) (List.getElem_mem hj)
    simpa [hj] using this
  · intro h x hx
    obtain ⟨j, hj, rfl⟩ := List.getElem_of_mem hx
    have := h j hj
    simpa [hj] using this
theorem nonneg_no {xs : List (Int × Int)} {j : Nat} (hj : j < xs.length) (h : (xs.getD j (0, 0)).1 < 0) : nonneg xs = false := by
  cases e : nonneg xs
  · rfl
  · have := (nonneg_iff xs).1 e j hj
    omega

set_option maxHeartbeats 1000000 in
theorem areNonnegative_any (v : Value) (xs : List (Int × Int)) (w : World) (hv : OwnF w v xs) (hm : xs.length ≤ 1048576) :
    Calls Try.prog 82 #[v] w fun e w' => e = .returned (.bool (nonneg xs)) ∧ Below w.heap.size w w' := by
  rcases hv.cases with ⟨rfl, rfl⟩ | ⟨g, cap, rfl, hlt⟩
  · clear hv
    go_enter Try.func82, Try.ntmps82
    go_wp2
    go_rounds 1
    all_goals go_ret
    all_goals exact ⟨rfl, Below.refl _ _⟩
  have HV := Lib.hid hv
  have HI := Lib.hid (nonneg_iff xs)
  obtain ⟨b, hb⟩ : ∃ b, b = nonneg xs := ⟨_, rfl⟩
  have HB := Lib.hid hb
  rw [← hb]
  clear hv hb
  go_enter Try.func82, Try.ntmps82
  go_wp2
  go_loopw [4, 7] (fun _ i wr => ∃ k : Nat, k ≤ xs.length ∧ i = .int .i64 k ∧ (∀ j, j < k → 0 ≤ (xs.getD j (0, 0)).1) ∧ Below w.heap.size w wr) (fun _ i _ => xs.length - (intOf i).toNat)
  case atStart => exact ⟨0, Nat.zero_le _, rfl, fun j hj => absurd hj (Nat.not_lt_zero _), Below.refl _ _⟩
  case round =>
    obtain ⟨k, hk, rfl, hall, hB⟩ := hrel
    have HA := Lib.hid hall
    clear hall
    by_cases hlt3 : k < xs.length
    · have ho := HV.out.below hB hlt
      have c0 := ho.cell0 rfl hlt3
      have c1 := ho.cell1 rfl hlt3
      have HBW := Lib.hid hB
      obtain ⟨x, hx⟩ : ∃ x, x = (xs.getD k (0, 0)).1 := ⟨_, rfl⟩
      rw [← hx] at c0
      have HX := Lib.hid hx
      generalize (xs.getD k (0, 0)).2 = y at *
      clear ho hx
      by_cases hneg : x < 0
      · have hbf : Hid (b = false) := by
          show b = false
          rw [HB.out]
          exact nonneg_no hlt3 (by rw [← HX.out]; exact hneg)
        go_wp2
        go_ret
        exact ⟨ret_bool hbf.out.symm, by (repeat' (first | (with_reducible exact Below.refl _ _) | (with_reducible assumption) | (with_reducible refine Below.alloc ?_ ?_ _) | (with_reducible refine Below.drew ?_) | (with_reducible refine below_drewN ?_ _) | (with_reducible refine Below.setCell ?_ ?_ _) | (with_reducible refine Below.trans ?_ (Below.mono (by with_reducible assumption) ?_)) | (with_reducible exact Below.size (by with_reducible assumption)) | go_size))⟩
      · have hnext : Hid (∀ j, j < k + 1 → 0 ≤ (xs.getD j (0, 0)).1) := by
          show ∀ j, j < k + 1 → _
          intro j hj
          by_cases e : j = k
          · subst e; rw [← HX.out]; omega
          · exact HA.out j (by omega)
        go_wp2
        go_roundw
        case rel => exact ⟨k + 1, by omega, by go_num, hnext.out, by (repeat' (first | (with_reducible exact Below.refl _ _) | (with_reducible assumption) | (with_reducible refine Below.alloc ?_ ?_ _) | (with_reducible refine Below.drew ?_) | (with_reducible refine below_drewN ?_ _) | (with_reducible refine Below.setCell ?_ ?_ _) | (with_reducible refine Below.trans ?_ (Below.mono (by with_reducible assumption) ?_)) | (with_reducible exact Below.size (by with_reducible assumption)) | go_size))⟩
        case measure => simp [intOf]; omega
    · obtain rfl : k = xs.length := by omega
      have hbt : Hid (b = true) := by
        show b = true
        rw [HB.out]
        exact HI.out.2 HA.out
      go_wp2
      go_ret
      exact ⟨ret_bool hbt.out.symm, hB⟩

def feasB (M : List (List Int)) (Q : List Int) (s : Int) : Bool := decide (dt M.length (colS M s) ≠ 0) && nonneg (ptL M Q s)
theorem feasB_zero {M : List (List Int)} {Q : List Int} {s : Int} (h : dt M.length (colS M s) = 0) : feasB M Q s = false := by unfold feasB; simp [h]
theorem feasB_ok {M : List (List Int)} {Q : List Int} {s : Int} (h : dt M.length (colS M s) ≠ 0) : feasB M Q s = nonneg (ptL M Q s) := by unfold feasB; simp [h]

set_option maxHeartbeats 1000000 in
theorem l02Feasible_any (m q : Value) (M : List (List Int)) (Q : List Int) (s : Int) (w : World) (h1 : PM.Rows w m M) (h2 : Ints w q Q) (hp : isPB M Q = true) :
    Calls Try.prog 79 #[.agg #[m, q], .int .i64 s] w fun e w' => e = .returned (.bool (feasB M Q s)) ∧ Below w.heap.size w w' := by
  have g1 := fun (w' : World) (h : Below w.heap.size w w') => h1.below h
  have g2 := fun (w' : World) (h : Below w.heap.size w w') => h2.below h
  obtain ⟨a1, c1, rfl, _⟩ := h1
  obtain ⟨a2, c2, rfl, _⟩ := h2
  by_cases hD : dt M.length (colS M s) = 0
  · rw [feasB_zero hD]
    have hpz := fun (w' : World) (hb : Below w.heap.size w w') => l01Point_zero _ _ M Q s w' (g1 _ hb) (g2 _ hb) hp hD
    have HPZ := Lib.hid hpz
    clear hp hD hpz
    go_enter Try.func79, Try.ntmps79
    go_wp2_with fail
    refine (HPZ.out _ (by (repeat' (first | (with_reducible exact Below.refl _ _) | (with_reducible assumption) | (with_reducible refine Below.alloc ?_ ?_ _) | (with_reducible refine Below.drew ?_) | (with_reducible refine below_drewN ?_ _) | (with_reducible refine Below.setCell ?_ ?_ _) | (with_reducible refine Below.trans ?_ (Below.mono (by with_reducible assumption) ?_)) | (with_reducible exact Below.size (by with_reducible assumption)) | go_size)))).mono ?_; rintro e w2 ⟨rfl, hb2⟩
    have hw0 : Below w.heap.size w (w.alloc (.cells #[.slice a1 M.length c1, .slice a2 Q.length c2] 27)) := by (repeat' (first | (with_reducible exact Below.refl _ _) | (with_reducible assumption) | (with_reducible refine Below.alloc ?_ ?_ _) | (with_reducible refine Below.drew ?_) | (with_reducible refine below_drewN ?_ _) | (with_reducible refine Below.setCell ?_ ?_ _) | (with_reducible refine Below.trans ?_ (Below.mono (by with_reducible assumption) ?_)) | (with_reducible exact Below.size (by with_reducible assumption)) | go_size))
    have hw2 := Lib.hid (hw0.trans (hb2.mono hw0.size))
    clear hb2 hw0
    go_wp2_with fail
    go_rounds 1
    all_goals go_wp2_with fail
    all_goals go_ret
    all_goals exact ⟨rfl, hw2.out⟩
  · rw [feasB_ok hD]
    have hpz := fun (w' : World) (hb : Below w.heap.size w w') => l01Point_ok _ _ M Q s w' (g1 _ hb) (g2 _ hb) hp hD
    have f2 := (isPB_facts hp).2.1
    have HPZ := Lib.hid hpz
    have hll : (ptL M Q s).length = M.length := by unfold ptL; rw [rowF_length]
    generalize ptL M Q s = xs at *
    have HLL := Lib.hid hll
    have HI := Lib.hid (nonneg_iff xs)
    clear hp hD hpz hll
    go_enter Try.func79, Try.ntmps79
    go_wp2_with fail
    refine (HPZ.out _ (by (repeat' (first | (with_reducible exact Below.refl _ _) | (with_reducible assumption) | (with_reducible refine Below.alloc ?_ ?_ _) | (with_reducible refine Below.drew ?_) | (with_reducible refine below_drewN ?_ _) | (with_reducible refine Below.setCell ?_ ?_ _) | (with_reducible refine Below.trans ?_ (Below.mono (by with_reducible assumption) ?_)) | (with_reducible exact Below.size (by with_reducible assumption)) | go_size)))).mono ?_; rintro e w2 ⟨g, c, rfl, hf, hb2⟩
    have hw0 : Below w.heap.size w (w.alloc (.cells #[.slice a1 M.length c1, .slice a2 Q.length c2] 27)) := by (repeat' (first | (with_reducible exact Below.refl _ _) | (with_reducible assumption) | (with_reducible refine Below.alloc ?_ ?_ _) | (with_reducible refine Below.drew ?_) | (with_reducible refine below_drewN ?_ _) | (with_reducible refine Below.setCell ?_ ?_ _) | (with_reducible refine Below.trans ?_ (Below.mono (by with_reducible assumption) ?_)) | (with_reducible exact Below.size (by with_reducible assumption)) | go_size))
    have hw2 := Lib.hid (hw0.trans (hb2.mono hw0.size))
    have HF := Lib.hid hf
    clear hb2 hw0 hf
    go_wp2_with fail
    go_loopw [6, 7] (fun b i wr => ∃ (k : Nat) (ok : Bool), k ≤ M.length ∧ i = .int .i64 k ∧ b = .bool ok ∧ (ok = true → ∀ j, j < k → 0 ≤ (xs.getD j (0, 0)).1) ∧ (ok = false → nonneg xs = false) ∧ wr = w2) (fun _ i _ => M.length - (intOf i).toNat)
    case atStart => exact ⟨0, true, Nat.zero_le _, rfl, rfl, fun _ j hj => absurd hj (Nat.not_lt_zero _), fun h => Bool.noConfusion h, rfl⟩
    case round =>
      obtain ⟨k, ok, hk, rfl, rfl, hal, hno, rfl⟩ := hrel
      have HA := Lib.hid hal
      have HN := Lib.hid hno
      clear hal hno
      by_cases hlt3 : k < M.length
      · cases ok
        · have hbf := HN.out rfl
          rw [hbf]
          go_wp2_with fail
          go_ret
          exact ⟨rfl, hw2.out⟩
        · have ho := HF.out.own
          have c0 := ho.cell0 HLL.out.symm hlt3
          obtain ⟨x, hx⟩ : ∃ x, x = (xs.getD k (0, 0)).1 := ⟨_, rfl⟩
          rw [← hx] at c0
          have HX := Lib.hid hx
          clear ho hx
          have hn1 : Hid (decide (0 ≤ x) = true → ∀ j, j < k + 1 → 0 ≤ (xs.getD j (0, 0)).1) := by
            show _ → _
            intro h j hj
            by_cases e : j = k
            · subst e; rw [← HX.out]; simpa using h
            · exact HA.out rfl j (by omega)
          have hn2 : Hid (decide (0 ≤ x) = false → nonneg xs = false) := by
            show _ → _
            intro h
            exact nonneg_no (by rw [HLL.out]; exact hlt3) (by rw [← HX.out]; simpa using h)
          go_wp2_with fail
          go_roundw
          case rel => exact ⟨k + 1, decide (0 ≤ x), by omega, by go_num, by simp, hn1.out, hn2.out, trivial⟩
          case measure => simp [intOf]; omega
      · obtain rfl : k = M.length := by omega
        have hbt : Hid (ok = nonneg xs) := by
          show ok = _
          cases ok
          · exact (HN.out rfl).symm
          · exact (HI.out.2 (fun j hj => HA.out rfl j (by rw [← HLL.out]; exact hj))).symm
        go_wp2_with fail
        go_ret
        exact ⟨ret_bool hbt.out, hw2.out⟩
end Go.Proofs.Ytoifpjmhikgjgaa.PW

namespace Go.Proofs.Ytoifpjmhikgjgaa.PW
open Go.RowKit Go.Proofs.Ytoifpjmhikgjgaa
open Go.Proofs.Ytoifpjmhikgjgaa.PM Go.Proofs.Ytoifpjmhikgjgaa.PX

def solF (M : List (List Int)) (Q : List Int) (s : Int) (j : Nat) : Int × Int := if bit s j then ptF M Q s j else (0, 1)
def solL (M : List (List Int)) (Q : List Int) (s : Int) : List (Int × Int) := (List.range M.length).map (solF M Q s)
def solK (M : List (List Int)) (Q : List Int) (s : Int) (k : Nat) : List (Int × Int) := (List.range M.length).map fun j => if j < k then solF M Q s j else ptF M Q s j
theorem solK_zero (M : List (List Int)) (Q : List Int) (s : Int) : solK M Q s 0 = ptL M Q s := by
  unfold solK ptL
  exact List.map_congr_left (fun j _ => by rw [if_neg (by omega)])
theorem solK_all (M : List (List Int)) (Q : List Int) (s : Int) : solK M Q s M.length = solL M Q s := by
  unfold solK solL
  exact List.map_congr_left (fun j hj => by rw [if_pos (by simpa using hj)])
theorem solK_length (M : List (List Int)) (Q : List Int) (s : Int) (k : Nat) : (solK M Q s k).length = M.length := by simp [solK]
theorem solK_yes {M : List (List Int)} {Q : List Int} {s : Int} {k : Nat} (h : bit s k = true) : solK M Q s (k + 1) = solK M Q s k := by
  unfold solK
  refine List.map_congr_left (fun j _ => ?_)
  by_cases e : j = k
  · subst e
    rw [if_pos (by omega), if_neg (by omega)]
    unfold solF
    rw [if_pos h]
  · by_cases e2 : j < k
    · rw [if_pos e2, if_pos (by omega)]
    · rw [if_neg e2, if_neg (by omega)]
theorem solK_no {M : List (List Int)} {Q : List Int} {s : Int} {k : Nat} (h : bit s k = false) : (solK M Q s k).set k (0, 1) = solK M Q s (k + 1) := by
  apply List.ext_getElem (by simp [solK])
  intro j h1 h2
  simp only [List.getElem_set, solK, List.getElem_map, List.getElem_range]
  by_cases e : k = j
  · subst e
    rw [if_pos rfl, if_pos (by omega)]
    unfold solF
    rw [h]
    rfl
  · rw [if_neg e]
    by_cases e2 : j < k
    · rw [if_pos e2, if_pos (by omega)]
    · rw [if_neg e2, if_neg (by omega)]
theorem and_one_dec : ∀ m : Fin 32, bits BinOp.and IntKind.i64 ((m.val : Nat) : Int) 1 = 0 ∨ bits BinOp.and IntKind.i64 ((m.val : Nat) : Int) 1 = 1 := by decide +kernel
theorem and_one {x : Int} (h0 : 0 ≤ x) (h1 : x < 32) : bits BinOp.and IntKind.i64 x 1 = 0 ∨ bits BinOp.and IntKind.i64 x 1 = 1 := by
  obtain ⟨m, rfl⟩ := Int.eq_ofNat_of_zero_le h0
  exact and_one_dec ⟨m, by omega⟩
theorem bit_cases {s : Int} (h0 : 0 ≤ s) (h1 : s < 32) (k : Nat) : (bits BinOp.and IntKind.i64 (s / 2 ^ k) 1 = 0 ∧ bit s k = false) ∨ (bits BinOp.and IntKind.i64 (s / 2 ^ k) 1 = 1 ∧ bit s k = true) := by
  have hp : (0 : Int) < 2 ^ k := Int.pow_pos (by decide)
  have a1 : 0 ≤ s / 2 ^ k := Int.ediv_nonneg h0 (Int.le_of_lt hp)
  have a2 : s / 2 ^ k ≤ s := Int.ediv_le_self _ h0
  rcases and_one a1 (by omega) with h | h
  · exact .inl ⟨h, by unfold bit; rw [h]; rfl⟩
  · exact .inr ⟨h, by unfold bit; rw [h]; rfl⟩

set_option maxHeartbeats 1000000 in
theorem l02Solution_any (m q : Value) (M : List (List Int)) (Q : List Int) (s : Int) (w : World) (h1 : PM.Rows w m M) (h2 : Ints w q Q) (hp : isPB M Q = true) (hD : dt M.length (colS M s) ≠ 0) (hs0 : 0 ≤ s) (hs1 : s < 32) :
    Calls Try.prog 81 #[.agg #[m, q], .int .i64 s] w fun e w' => ∃ g c, e = .returned (.slice (some ⟨g, 0, none⟩) M.length c) ∧ FreshF w.heap.size w' (.slice (some ⟨g, 0, none⟩) M.length c) (solL M Q s) ∧ Below w.heap.size w w' := by
  have g1 := fun (w' : World) (h : Below w.heap.size w w') => h1.below h
  have g2 := fun (w' : World) (h : Below w.heap.size w w') => h2.below h
  obtain ⟨a1, c1, rfl, _⟩ := h1
  obtain ⟨a2, c2, rfl, _⟩ := h2
  have hpz := fun (w' : World) (hb : Below w.heap.size w w') => l01Point_ok _ _ M Q s w' (g1 _ hb) (g2 _ hb) hp hD
  have f2 := (isPB_facts hp).2.1
  have HPZ := Lib.hid hpz
  have HBC := Lib.hid (fun k => bit_cases hs0 hs1 k)
  clear hp hD hpz
  go_enter Try.func81, Try.ntmps81
  go_wp2_with fail
  refine (HPZ.out _ (by (repeat' (first | (with_reducible exact Below.refl _ _) | (with_reducible assumption) | (with_reducible refine Below.alloc ?_ ?_ _) | (with_reducible refine Below.drew ?_) | (with_reducible refine below_drewN ?_ _) | (with_reducible refine Below.setCell ?_ ?_ _) | (with_reducible refine Below.trans ?_ (Below.mono (by with_reducible assumption) ?_)) | (with_reducible exact Below.size (by with_reducible assumption)) | go_size)))).mono ?_; rintro e w2 ⟨g, c, rfl, hf, hb2⟩
  have hw0 : Below w.heap.size w (w.alloc (.cells #[.slice a1 M.length c1, .slice a2 Q.length c2] 27)) := by (repeat' (first | (with_reducible exact Below.refl _ _) | (with_reducible assumption) | (with_reducible refine Below.alloc ?_ ?_ _) | (with_reducible refine Below.drew ?_) | (with_reducible refine below_drewN ?_ _) | (with_reducible refine Below.setCell ?_ ?_ _) | (with_reducible refine Below.trans ?_ (Below.mono (by with_reducible assumption) ?_)) | (with_reducible exact Below.size (by with_reducible assumption)) | go_size))
  have HW2 := Lib.hid (hw0.trans (hb2.mono hw0.size))
  have HF := Lib.hid (hf.mono (C := w.heap.size) (by simp))
  have hg : w.heap.size ≤ g := by
    obtain ⟨g', c', hv, hB, _⟩ := HF.out
    simp at hv
    omega
  clear hb2 hw0 hf
  go_wp2_with fail
  go_loopw [7] (fun i wr => ∃ k : Nat, k ≤ M.length ∧ i = .int .i64 k ∧ FreshF w.heap.size wr (.slice (some ⟨g, 0, none⟩) M.length c) (solK M Q s k) ∧ Below w.heap.size w wr) (fun i _ => M.length - (intOf i).toNat)
  case atStart => exact ⟨0, Nat.zero_le _, rfl, by rw [solK_zero]; exact HF.out, HW2.out⟩
  case round =>
    obtain ⟨k, hk, rfl, hO, hB⟩ := hrel
    by_cases hlt3 : k < M.length
    · rcases HBC.out k with ⟨hz, hbt⟩ | ⟨hz, hbt⟩
      · have ho := hO.own
        have c0 := ho.cell0 (solK_length M Q s k).symm hlt3
        have c1 := ho.cell1 (solK_length M Q s k).symm hlt3
        have f0 := fun i => ho.frozen (solK_length M Q s k).symm i
        have hst := hO.set hlt3 0 1
        rw [solK_no hbt] at hst
        have HST := Lib.hid hst
        have HBL := Lib.hid ((hB.setCell (p := ⟨g, k * 2, none⟩) hg (.int .i64 0)).setCell (p := ⟨g, k * 2 + 1, none⟩) hg (.int .i64 1))
        clear hst ho hO hB hbt
        generalize ((solK M Q s k).getD k (0, 0)).1 = x at *
        generalize ((solK M Q s k).getD k (0, 0)).2 = y at *
        go_wp2_with fail
        go_roundw
        case rel => exact ⟨k + 1, by omega, by go_num, HST.out, HBL.out⟩
        case measure => simp [intOf]; omega
      · have HO := Lib.hid hO
        have HB := Lib.hid hB
        have HX : Hid (solK M Q s (k + 1) = solK M Q s k) := Lib.hid (solK_yes hbt)
        clear hO hB hbt
        go_wp2_with fail
        go_roundw
        case rel => exact ⟨k + 1, by omega, by go_num, by rw [HX.out]; exact HO.out, HB.out⟩
        case measure => simp [intOf]; omega
    · obtain rfl : k = M.length := by omega
      rw [solK_all] at hO
      have HO := Lib.hid hO
      have HB := Lib.hid hB
      clear hO hB
      go_wp2_with fail
      go_ret
      exact ⟨_, _, rfl, HO.out, HB.out⟩

set_option maxHeartbeats 1000000 in
theorem l02Told_any (g c : Nat) (xs : List (Int × Int)) (w : World) (hv : OwnF w (.slice (some ⟨g, 0, none⟩) xs.length c) xs) (hm : xs.length ≤ 1048576) (hi : ∀ j, j < xs.length → FM.isF (xs.getD j (0, 0)).1 (xs.getD j (0, 0)).2 = true) :
    Calls Try.prog 80 #[.slice (some ⟨g, 0, none⟩) xs.length c] w fun e w' => e = .returned (.tuple #[.slice (some ⟨g, 0, none⟩) xs.length c, .int .i64 0]) ∧ w = w' := by
  have HV := Lib.hid hv
  have HI := Lib.hid hi
  clear hv hi
  go_enter Try.func80, Try.ntmps80
  go_wp2_with fail
  go_loop [4] (fun i => ∃ k : Nat, k ≤ xs.length ∧ i = .int .i64 k) (fun i => xs.length - (intOf i).toNat)
  case atStart => exact ⟨0, Nat.zero_le _, rfl⟩
  case round =>
    obtain ⟨k, hk, rfl⟩ := hrel
    by_cases hlt3 : k < xs.length
    · have c0 := HV.out.cell0 rfl hlt3
      have c1 := HV.out.cell1 rfl hlt3
      have hf := HI.out k hlt3
      generalize (xs.getD k (0, 0)).1 = x at *
      generalize (xs.getD k (0, 0)).2 = y at *
      obtain ⟨b1, b2, b3, b4, _⟩ := of_decide_eq_true hf
      have HL := Lib.hid (show decide ((-1000000000 : Int) ≤ x ∧ x ≤ 1000000000) = true from decide_eq_true (by omega))
      clear hf
      go_wp2_with fail
      refine (l01In_is x (-1000000000) 1000000000 true _ HL.out).mono ?_; rintro e w2 ⟨rfl, rfl⟩
      go_wp2_with fail
      go_round
      case rel => exact ⟨k + 1, by omega, by go_num⟩
      case measure => simp [intOf]; omega
    · obtain rfl : k = xs.length := by omega
      go_wp2_with fail
      go_ret2
      exact ⟨rfl, rfl⟩
end Go.Proofs.Ytoifpjmhikgjgaa.PW

namespace Go.Proofs.Ytoifpjmhikgjgaa.PW
open Go.RowKit Go.Proofs.Ytoifpjmhikgjgaa
open Go.Proofs.Ytoifpjmhikgjgaa.PM Go.Proofs.Ytoifpjmhikgjgaa.PX

def solOut (M : List (List Int)) (Q : List Int) (s : Int) : List (Int × Int) × Int :=
  if setCode M Q s = 0 then (if feasB M Q s = true then (solL M Q s, 0) else ([], 5)) else ([], setCode M Q s)
theorem solOut_err {M : List (List Int)} {Q : List Int} {s c : Int} (h : setCode M Q s = c) (hc : c ≠ 0) : solOut M Q s = ([], c) := by unfold solOut; rw [if_neg (by omega), h]
theorem solOut_no {M : List (List Int)} {Q : List Int} {s : Int} (h : setCode M Q s = 0) (hd : feasB M Q s = false) : solOut M Q s = ([], 5) := by unfold solOut; rw [if_pos h, if_neg (by rw [hd]; exact Bool.noConfusion)]
theorem solOut_ok {M : List (List Int)} {Q : List Int} {s : Int} (h : setCode M Q s = 0) (hd : feasB M Q s = true) : solOut M Q s = (solL M Q s, 0) := by unfold solOut; rw [if_pos h, if_pos hd]
theorem feasB_ne {M : List (List Int)} {Q : List Int} {s : Int} (h : feasB M Q s = true) : dt M.length (colS M s) ≠ 0 := fun c => by rw [feasB_zero c] at h; cases h
theorem set_small {M : List (List Int)} {Q : List Int} {s : Int} (hp : isPB M Q = true) (h : s < 2 ^ M.length) : s < 32 := by
  have f2 := (isPB_facts hp).2.1
  obtain h1 | h1 | h1 | h1 | h1 | h1 : M.length = 0 ∨ M.length = 1 ∨ M.length = 2 ∨ M.length = 3 ∨ M.length = 4 ∨ M.length = 5 := by omega
  all_goals
    rw [h1] at h
    simp at h
    omega
theorem fine_sol (M : List (List Int)) (Q : List Int) (s : Int) : FineF (solOut M Q s).1 := by
  unfold solOut
  split
  · rename_i h
    split
    · rcases setCode_cases M Q s with h' | h' | ⟨_, hp, _, _⟩
      · omega
      · omega
      · refine ⟨?_⟩
        have := (isPB_facts hp).2.1
        show (solL M Q s).length ≤ _
        unfold solL
        rw [rowF_length]
        omega
    · exact fineF_nil
  · exact fineF_nil
theorem sol_isF {M : List (List Int)} {Q : List Int} {s : Int} (hp : isPB M Q = true) (hD : dt M.length (colS M s) ≠ 0) (j : Nat) (hj : j < M.length) : FM.isF ((solL M Q s).getD j (0, 0)).1 ((solL M Q s).getD j (0, 0)).2 = true := by
  have e : (solL M Q s).getD j (0, 0) = solF M Q s j := by unfold solL; simp [hj]
  rw [e]
  unfold solF
  split
  · exact pt_isF hp hD j
  · decide +kernel

set_option maxHeartbeats 1000000 in
theorem specSolutionOfSet_any (m q : Value) (M : List (List Int)) (Q : List Int) (s : Int) (w : World) (h1 : PM.Rows w m M) (h2 : Ints w q Q) :
    Calls Try.prog 41 #[.agg #[m, q], .int .i64 s] w (OutF w (solOut M Q s)) := by
  have g1 := fun (w' : World) (h : Below w.heap.size w w') => h1.below h
  have g2 := fun (w' : World) (h : Below w.heap.size w w') => h2.below h
  obtain ⟨a1, c1, rfl, _⟩ := h1
  obtain ⟨a2, c2, rfl, _⟩ := h2
  rcases setCode_cases M Q s with h | h | ⟨h, hp, hs0, hs1⟩
  case' inr.inr =>
    have HC := Lib.hid h
    have hfe := fun (w' : World) (hb : Below w.heap.size w w') => l02Feasible_any _ _ M Q s w' (g1 _ hb) (g2 _ hb) hp
    cases hD : feasB M Q s
    case' false =>
      rw [solOut_no h hD]
      rw [hD] at hfe
      have HFE := Lib.hid hfe
      clear h hp hs0 hs1 hD hfe
      go_enter Try.func41, Try.ntmps41
      go_wp2_with fail
      refine (l02Code_any _ _ M Q s _ (g1 _ (by (repeat' (first | (with_reducible exact Below.refl _ _) | (with_reducible assumption) | (with_reducible refine Below.alloc ?_ ?_ _) | (with_reducible refine Below.drew ?_) | (with_reducible refine below_drewN ?_ _) | (with_reducible refine Below.setCell ?_ ?_ _) | (with_reducible refine Below.trans ?_ (Below.mono (by with_reducible assumption) ?_)) | (with_reducible exact Below.size (by with_reducible assumption)) | go_size)))) (g2 _ (by (repeat' (first | (with_reducible exact Below.refl _ _) | (with_reducible assumption) | (with_reducible refine Below.alloc ?_ ?_ _) | (with_reducible refine Below.drew ?_) | (with_reducible refine below_drewN ?_ _) | (with_reducible refine Below.setCell ?_ ?_ _) | (with_reducible refine Below.trans ?_ (Below.mono (by with_reducible assumption) ?_)) | (with_reducible exact Below.size (by with_reducible assumption)) | go_size))))).mono ?_; rw [HC.out]; rintro e w1 ⟨rfl, hb1⟩; obtain ⟨hc_hb1, hf_hb1⟩ := bcell hb1; obtain ⟨hcA_hb1, hfA_hb1⟩ := bcellG (W0 := w) hb1 (by (repeat' (first | (with_reducible exact Below.refl _ _) | (with_reducible assumption) | (with_reducible refine Below.alloc ?_ ?_ _) | (with_reducible refine Below.drew ?_) | (with_reducible refine below_drewN ?_ _) | (with_reducible refine Below.setCell ?_ ?_ _) | (with_reducible refine Below.trans ?_ (Below.mono (by with_reducible assumption) ?_)) | (with_reducible exact Below.size (by with_reducible assumption)) | go_size))); have hz_hb1 := hb1.size; (try simp at hz_hb1); (try simp only [Nat.add_one_le_iff] at hz_hb1); have hz0_hb1 : w.heap.size < w1.heap.size := (by omega)
      have hw1 : Below w.heap.size w w1 := by (repeat' (first | (with_reducible exact Below.refl _ _) | (with_reducible assumption) | (with_reducible refine Below.alloc ?_ ?_ _) | (with_reducible refine Below.drew ?_) | (with_reducible refine below_drewN ?_ _) | (with_reducible refine Below.setCell ?_ ?_ _) | (with_reducible refine Below.trans ?_ (Below.mono (by with_reducible assumption) ?_)) | (with_reducible exact Below.size (by with_reducible assumption)) | go_size))
      go_wp2_with fail
      refine (HFE.out _ hw1).mono ?_; rintro e w2 ⟨rfl, hb2⟩
      go_wp2_with fail
      go_ret2
      exact outF_nil (hw1.trans (hb2.mono hw1.size))
    case' true =>
      rw [solOut_ok h hD]
      have hne := feasB_ne hD
      rw [hD] at hfe
      have hso := fun (w' : World) (hb : Below w.heap.size w w') => l02Solution_any _ _ M Q s w' (g1 _ hb) (g2 _ hb) hp hne hs0 (set_small hp hs1)
      have HFE := Lib.hid hfe
      have HSO := Lib.hid hso
      have HIF := Lib.hid (sol_isF hp hne)
      have f2 := (isPB_facts hp).2.1
      have hll : (solL M Q s).length = M.length := by unfold solL; rw [rowF_length]
      have HLL := Lib.hid hll
      clear h hp hs0 hs1 hD hfe hne hso hll
      go_enter Try.func41, Try.ntmps41
      go_wp2_with fail
      refine (l02Code_any _ _ M Q s _ (g1 _ (by (repeat' (first | (with_reducible exact Below.refl _ _) | (with_reducible assumption) | (with_reducible refine Below.alloc ?_ ?_ _) | (with_reducible refine Below.drew ?_) | (with_reducible refine below_drewN ?_ _) | (with_reducible refine Below.setCell ?_ ?_ _) | (with_reducible refine Below.trans ?_ (Below.mono (by with_reducible assumption) ?_)) | (with_reducible exact Below.size (by with_reducible assumption)) | go_size)))) (g2 _ (by (repeat' (first | (with_reducible exact Below.refl _ _) | (with_reducible assumption) | (with_reducible refine Below.alloc ?_ ?_ _) | (with_reducible refine Below.drew ?_) | (with_reducible refine below_drewN ?_ _) | (with_reducible refine Below.setCell ?_ ?_ _) | (with_reducible refine Below.trans ?_ (Below.mono (by with_reducible assumption) ?_)) | (with_reducible exact Below.size (by with_reducible assumption)) | go_size))))).mono ?_; rw [HC.out]; rintro e w1 ⟨rfl, hb1⟩; obtain ⟨hc_hb1, hf_hb1⟩ := bcell hb1; obtain ⟨hcA_hb1, hfA_hb1⟩ := bcellG (W0 := w) hb1 (by (repeat' (first | (with_reducible exact Below.refl _ _) | (with_reducible assumption) | (with_reducible refine Below.alloc ?_ ?_ _) | (with_reducible refine Below.drew ?_) | (with_reducible refine below_drewN ?_ _) | (with_reducible refine Below.setCell ?_ ?_ _) | (with_reducible refine Below.trans ?_ (Below.mono (by with_reducible assumption) ?_)) | (with_reducible exact Below.size (by with_reducible assumption)) | go_size))); have hz_hb1 := hb1.size; (try simp at hz_hb1); (try simp only [Nat.add_one_le_iff] at hz_hb1); have hz0_hb1 : w.heap.size < w1.heap.size := (by omega)
      have hw1 : Below w.heap.size w w1 := by (repeat' (first | (with_reducible exact Below.refl _ _) | (with_reducible assumption) | (with_reducible refine Below.alloc ?_ ?_ _) | (with_reducible refine Below.drew ?_) | (with_reducible refine below_drewN ?_ _) | (with_reducible refine Below.setCell ?_ ?_ _) | (with_reducible refine Below.trans ?_ (Below.mono (by with_reducible assumption) ?_)) | (with_reducible exact Below.size (by with_reducible assumption)) | go_size))
      go_wp2_with fail
      refine (HFE.out _ hw1).mono ?_; rintro e w2 ⟨rfl, hb2⟩
      have d0 := (hb2.cell (p := ⟨w.heap.size, 0, none⟩) (by omega)).trans (hc_hb1 w.heap.size 0 (by simp))
      have d1 := (hb2.cell (p := ⟨w.heap.size, 1, none⟩) (by omega)).trans (hc_hb1 w.heap.size 1 (by simp))
      have hw2 := hw1.trans (hb2.mono hw1.size)
      simp at d0 d1
      clear hb2
      go_wp2_with fail
      refine (HSO.out _ hw2).mono ?_; rintro e w3 ⟨g, c, rfl, hf, hb3⟩
      have HF := Lib.hid (hf.mono hw2.size)
      have HW3 := Lib.hid (hw2.trans (hb3.mono hw2.size))
      have htl := l02Told_any g c (solL M Q s) w3 (by rw [HLL.out]; exact hf.own) (by rw [HLL.out]; omega) (fun j hj => HIF.out j (by rw [← HLL.out]; exact hj))
      rw [HLL.out] at htl
      have HTL := Lib.hid htl
      clear hf hb3 htl
      go_wp2_with fail
      refine HTL.out.mono ?_; rintro e w4 ⟨rfl, rfl⟩
      go_wp2_with fail
      go_ret2
      exact ⟨_, rfl, HF.out.rng, HW3.out⟩
  all_goals
    rw [solOut_err h (by omega)]
    have HC := Lib.hid h
    clear h
    go_enter Try.func41, Try.ntmps41
    go_wp2_with fail
    refine (l02Code_any _ _ M Q s _ (g1 _ (by (repeat' (first | (with_reducible exact Below.refl _ _) | (with_reducible assumption) | (with_reducible refine Below.alloc ?_ ?_ _) | (with_reducible refine Below.drew ?_) | (with_reducible refine below_drewN ?_ _) | (with_reducible refine Below.setCell ?_ ?_ _) | (with_reducible refine Below.trans ?_ (Below.mono (by with_reducible assumption) ?_)) | (with_reducible exact Below.size (by with_reducible assumption)) | go_size)))) (g2 _ (by (repeat' (first | (with_reducible exact Below.refl _ _) | (with_reducible assumption) | (with_reducible refine Below.alloc ?_ ?_ _) | (with_reducible refine Below.drew ?_) | (with_reducible refine below_drewN ?_ _) | (with_reducible refine Below.setCell ?_ ?_ _) | (with_reducible refine Below.trans ?_ (Below.mono (by with_reducible assumption) ?_)) | (with_reducible exact Below.size (by with_reducible assumption)) | go_size))))).mono ?_; rw [HC.out]; rintro e w1 ⟨rfl, hb1⟩; obtain ⟨hc_hb1, hf_hb1⟩ := bcell hb1; obtain ⟨hcA_hb1, hfA_hb1⟩ := bcellG (W0 := w) hb1 (by (repeat' (first | (with_reducible exact Below.refl _ _) | (with_reducible assumption) | (with_reducible refine Below.alloc ?_ ?_ _) | (with_reducible refine Below.drew ?_) | (with_reducible refine below_drewN ?_ _) | (with_reducible refine Below.setCell ?_ ?_ _) | (with_reducible refine Below.trans ?_ (Below.mono (by with_reducible assumption) ?_)) | (with_reducible exact Below.size (by with_reducible assumption)) | go_size))); have hz_hb1 := hb1.size; (try simp at hz_hb1); (try simp only [Nat.add_one_le_iff] at hz_hb1); have hz0_hb1 : w.heap.size < w1.heap.size := (by omega)
    go_wp2_with fail
    go_ret2
    exact outF_nil (by (repeat' (first | (with_reducible exact Below.refl _ _) | (with_reducible assumption) | (with_reducible refine Below.alloc ?_ ?_ _) | (with_reducible refine Below.drew ?_) | (with_reducible refine below_drewN ?_ _) | (with_reducible refine Below.setCell ?_ ?_ _) | (with_reducible refine Below.trans ?_ (Below.mono (by with_reducible assumption) ?_)) | (with_reducible exact Below.size (by with_reducible assumption)) | go_size)))
end Go.Proofs.Ytoifpjmhikgjgaa.PW
