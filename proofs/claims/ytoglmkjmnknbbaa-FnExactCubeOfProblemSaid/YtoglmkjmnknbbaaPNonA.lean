/-
  Walks: which points have no negative number, in the program and in the model; the solution of a set, in the model.
-/
import Derived.Test.YtoglmkjmnknbbaaPSg
namespace Go.Proofs.Ytoglmkjmnknbbaa.PW
open Go.RowKit Go.Proofs.Ytoglmkjmnknbbaa
open Go.Proofs.Ytoglmkjmnknbbaa.PM Go.Proofs.Ytoglmkjmnknbbaa.PX

def nonneg (xs : List (Int × Int)) : Bool := xs.all fun x => decide (0 ≤ x.1)
theorem nonneg_iff (xs : List (Int × Int)) : nonneg xs = true ↔ ∀ j, j < xs.length → 0 ≤ (xs.getD j (0, 0)).1 := by
  unfold nonneg
  rw [List.all_eq_true]
  constructor
  · intro h j hj
    have := h (xs[j]) (List.getElem_mem hj)
    simpa [hj] using this
  · intro h x hx
    obtain ⟨j, hj, rfl⟩ := List.getElem_of_mem hx
    have := h j hj
    simpa [hj] using this
theorem nonneg_no {xs : List (Int × Int)} {j : Nat} (hj : j < xs.length) (h : (xs.getD j (0, 0)).1 < 0) : nonneg xs = false := by
  cases e : nonneg xs
  · rfl
  · have := (nonneg_iff xs).1 e j hj
    omega

set_option maxHeartbeats 1000000 in
theorem areNonnegative_any (v : Value) (xs : List (Int × Int)) (w : World) (hv : OwnF w v xs) (hm : xs.length ≤ 1048576) :
    Calls Try.prog 114 #[v] w fun e w' => e = .returned (.bool (nonneg xs)) ∧ Below w.heap.size w w' := by
  rcases hv.cases with ⟨rfl, rfl⟩ | ⟨g, cap, rfl, hlt⟩
  · clear hv
    go_enter Try.func114, Try.ntmps114
    go_wp2
    go_rounds 1
    all_goals go_ret
    all_goals exact ⟨rfl, Below.refl _ _⟩
  have HV := Lib.hid hv
  have HI := Lib.hid (nonneg_iff xs)
  obtain ⟨b, hb⟩ : ∃ b, b = nonneg xs := ⟨_, rfl⟩
  have HB := Lib.hid hb
  rw [← hb]
  clear hv hb
  go_enter Try.func114, Try.ntmps114
  go_wp2
  go_loopw [4, 7] (fun _ i wr => ∃ k : Nat, k ≤ xs.length ∧ i = .int .i64 k ∧ (∀ j, j < k → 0 ≤ (xs.getD j (0, 0)).1) ∧ Below w.heap.size w wr) (fun _ i _ => xs.length - (intOf i).toNat)
  case atStart => exact ⟨0, Nat.zero_le _, rfl, fun j hj => absurd hj (Nat.not_lt_zero _), Below.refl _ _⟩
  case round =>
    obtain ⟨k, hk, rfl, hall, hB⟩ := hrel
    have HA := Lib.hid hall
    clear hall
    by_cases hlt3 : k < xs.length
    · have ho := HV.out.below hB hlt
      have c0 := ho.cell0 rfl hlt3
      have c1 := ho.cell1 rfl hlt3
      have HBW := Lib.hid hB
      obtain ⟨x, hx⟩ : ∃ x, x = (xs.getD k (0, 0)).1 := ⟨_, rfl⟩
      rw [← hx] at c0
      have HX := Lib.hid hx
      generalize (xs.getD k (0, 0)).2 = y at *
      clear ho hx
      by_cases hneg : x < 0
      · have hbf : Hid (b = false) := by
          show b = false
          rw [HB.out]
          exact nonneg_no hlt3 (by rw [← HX.out]; exact hneg)
        go_wp2
        go_ret
        exact ⟨ret_bool hbf.out.symm, by (repeat' (first | (with_reducible exact Below.refl _ _) | (with_reducible assumption) | (with_reducible refine Below.alloc ?_ ?_ _) | (with_reducible refine Below.drew ?_) | (with_reducible refine below_drewN ?_ _) | (with_reducible refine Below.setCell ?_ ?_ _) | (with_reducible refine Below.trans ?_ (Below.mono (by with_reducible assumption) ?_)) | (with_reducible exact Below.size (by with_reducible assumption)) | go_size))⟩
      · have hnext : Hid (∀ j, j < k + 1 → 0 ≤ (xs.getD j (0, 0)).1) := by
          show ∀ j, j < k + 1 → _
          intro j hj
          by_cases e : j = k
          · subst e; rw [← HX.out]; omega
          · exact HA.out j (by omega)
        go_wp2
        go_roundw
        case rel => exact ⟨k + 1, by omega, by go_num, hnext.out, by (repeat' (first | (with_reducible exact Below.refl _ _) | (with_reducible assumption) | (with_reducible refine Below.alloc ?_ ?_ _) | (with_reducible refine Below.drew ?_) | (with_reducible refine below_drewN ?_ _) | (with_reducible refine Below.setCell ?_ ?_ _) | (with_reducible refine Below.trans ?_ (Below.mono (by with_reducible assumption) ?_)) | (with_reducible exact Below.size (by with_reducible assumption)) | go_size))⟩
        case measure => simp [intOf]; omega
    · obtain rfl : k = xs.length := by omega
      have hbt : Hid (b = true) := by
        show b = true
        rw [HB.out]
        exact HI.out.2 HA.out
      go_wp2
      go_ret
      exact ⟨ret_bool hbt.out.symm, hB⟩

def feasB (M : List (List Int)) (Q : List Int) (s : Int) : Bool := decide (dt M.length (colS M s) ≠ 0) && nonneg (ptL M Q s)
theorem feasB_zero {M : List (List Int)} {Q : List Int} {s : Int} (h : dt M.length (colS M s) = 0) : feasB M Q s = false := by unfold feasB; simp [h]
theorem feasB_ok {M : List (List Int)} {Q : List Int} {s : Int} (h : dt M.length (colS M s) ≠ 0) : feasB M Q s = nonneg (ptL M Q s) := by unfold feasB; simp [h]

end Go.Proofs.Ytoglmkjmnknbbaa.PW

namespace Go.Proofs.Ytoglmkjmnknbbaa.PW
open Go.RowKit Go.Proofs.Ytoglmkjmnknbbaa
open Go.Proofs.Ytoglmkjmnknbbaa.PM Go.Proofs.Ytoglmkjmnknbbaa.PX

def solF (M : List (List Int)) (Q : List Int) (s : Int) (j : Nat) : Int × Int := if bit s j then ptF M Q s j else (0, 1)
def solL (M : List (List Int)) (Q : List Int) (s : Int) : List (Int × Int) := (List.range M.length).map (solF M Q s)
def solK (M : List (List Int)) (Q : List Int) (s : Int) (k : Nat) : List (Int × Int) := (List.range M.length).map fun j => if j < k then solF M Q s j else ptF M Q s j
theorem solK_zero (M : List (List Int)) (Q : List Int) (s : Int) : solK M Q s 0 = ptL M Q s := by
  unfold solK ptL
  exact List.map_congr_left (fun j _ => by rw [if_neg (by omega)])
theorem solK_all (M : List (List Int)) (Q : List Int) (s : Int) : solK M Q s M.length = solL M Q s := by
  unfold solK solL
  exact List.map_congr_left (fun j hj => by rw [if_pos (by simpa using hj)])
theorem solK_length (M : List (List Int)) (Q : List Int) (s : Int) (k : Nat) : (solK M Q s k).length = M.length := by simp [solK]
theorem solK_yes {M : List (List Int)} {Q : List Int} {s : Int} {k : Nat} (h : bit s k = true) : solK M Q s (k + 1) = solK M Q s k := by
  unfold solK
  refine List.map_congr_left (fun j _ => ?_)
  by_cases e : j = k
  · subst e
    rw [if_pos (by omega), if_neg (by omega)]
    unfold solF
    rw [if_pos h]
  · by_cases e2 : j < k
    · rw [if_pos e2, if_pos (by omega)]
    · rw [if_neg e2, if_neg (by omega)]
theorem solK_no {M : List (List Int)} {Q : List Int} {s : Int} {k : Nat} (h : bit s k = false) : (solK M Q s k).set k (0, 1) = solK M Q s (k + 1) := by
  apply List.ext_getElem (by simp [solK])
  intro j h1 h2
  simp only [List.getElem_set, solK, List.getElem_map, List.getElem_range]
  by_cases e : k = j
  · subst e
    rw [if_pos rfl, if_pos (by omega)]
    unfold solF
    rw [h]
    rfl
  · rw [if_neg e]
    by_cases e2 : j < k
    · rw [if_pos e2, if_pos (by omega)]
    · rw [if_neg e2, if_neg (by omega)]
theorem and_one_dec : ∀ m : Fin 32, bits BinOp.and IntKind.i64 ((m.val : Nat) : Int) 1 = 0 ∨ bits BinOp.and IntKind.i64 ((m.val : Nat) : Int) 1 = 1 := by decide +kernel
theorem and_one {x : Int} (h0 : 0 ≤ x) (h1 : x < 32) : bits BinOp.and IntKind.i64 x 1 = 0 ∨ bits BinOp.and IntKind.i64 x 1 = 1 := by
  obtain ⟨m, rfl⟩ := Int.eq_ofNat_of_zero_le h0
  exact and_one_dec ⟨m, by omega⟩
theorem bit_cases {s : Int} (h0 : 0 ≤ s) (h1 : s < 32) (k : Nat) : (bits BinOp.and IntKind.i64 (s / 2 ^ k) 1 = 0 ∧ bit s k = false) ∨ (bits BinOp.and IntKind.i64 (s / 2 ^ k) 1 = 1 ∧ bit s k = true) := by
  have hp : (0 : Int) < 2 ^ k := Int.pow_pos (by decide)
  have a1 : 0 ≤ s / 2 ^ k := Int.ediv_nonneg h0 (Int.le_of_lt hp)
  have a2 : s / 2 ^ k ≤ s := Int.ediv_le_self _ h0
  rcases and_one a1 (by omega) with h | h
  · exact .inl ⟨h, by unfold bit; rw [h]; rfl⟩
  · exact .inr ⟨h, by unfold bit; rw [h]; rfl⟩


end Go.Proofs.Ytoglmkjmnknbbaa.PW

namespace Go.Proofs.Ytoglmkjmnknbbaa.PW
open Go.RowKit Go.Proofs.Ytoglmkjmnknbbaa
open Go.Proofs.Ytoglmkjmnknbbaa.PM Go.Proofs.Ytoglmkjmnknbbaa.PX

def solOut (M : List (List Int)) (Q : List Int) (s : Int) : List (Int × Int) × Int :=
  if setCode M Q s = 0 then (if feasB M Q s = true then (solL M Q s, 0) else ([], 5)) else ([], setCode M Q s)
theorem solOut_err {M : List (List Int)} {Q : List Int} {s c : Int} (h : setCode M Q s = c) (hc : c ≠ 0) : solOut M Q s = ([], c) := by unfold solOut; rw [if_neg (by omega), h]
theorem solOut_no {M : List (List Int)} {Q : List Int} {s : Int} (h : setCode M Q s = 0) (hd : feasB M Q s = false) : solOut M Q s = ([], 5) := by unfold solOut; rw [if_pos h, if_neg (by rw [hd]; exact Bool.noConfusion)]
theorem solOut_ok {M : List (List Int)} {Q : List Int} {s : Int} (h : setCode M Q s = 0) (hd : feasB M Q s = true) : solOut M Q s = (solL M Q s, 0) := by unfold solOut; rw [if_pos h, if_pos hd]
theorem feasB_ne {M : List (List Int)} {Q : List Int} {s : Int} (h : feasB M Q s = true) : dt M.length (colS M s) ≠ 0 := fun c => by rw [feasB_zero c] at h; cases h
theorem set_small {M : List (List Int)} {Q : List Int} {s : Int} (hp : isPB M Q = true) (h : s < 2 ^ M.length) : s < 32 := by
  have f2 := (isPB_facts hp).2.1
  obtain h1 | h1 | h1 | h1 | h1 | h1 : M.length = 0 ∨ M.length = 1 ∨ M.length = 2 ∨ M.length = 3 ∨ M.length = 4 ∨ M.length = 5 := by omega
  all_goals
    rw [h1] at h
    simp at h
    omega
theorem fine_sol (M : List (List Int)) (Q : List Int) (s : Int) : FineF (solOut M Q s).1 := by
  unfold solOut
  split
  · rename_i h
    split
    · rcases setCode_cases M Q s with h' | h' | ⟨_, hp, _, _⟩
      · omega
      · omega
      · refine ⟨?_⟩
        have := (isPB_facts hp).2.1
        show (solL M Q s).length ≤ _
        unfold solL
        rw [rowF_length]
        omega
    · exact fineF_nil
  · exact fineF_nil
theorem sol_isF {M : List (List Int)} {Q : List Int} {s : Int} (hp : isPB M Q = true) (hD : dt M.length (colS M s) ≠ 0) (j : Nat) (hj : j < M.length) : FM.isF ((solL M Q s).getD j (0, 0)).1 ((solL M Q s).getD j (0, 0)).2 = true := by
  have e : (solL M Q s).getD j (0, 0) = solF M Q s j := by unfold solL; simp [hj]
  rw [e]
  unfold solF
  split
  · exact pt_isF hp hD j
  · decide +kernel

end Go.Proofs.Ytoglmkjmnknbbaa.PW
