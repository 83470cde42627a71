/-
  Walks: the members of a set, one after the other, in the program.
-/
import Derived.Test.YtkdgnegnndedaaaPSetA
import Derived.RangeFuncNested
import Derived.RangeFuncBound
import Derived.RangeFuncCalls
import Derived.RangeFuncLeaves
import Derived.RangeFuncKeeps
import Derived.RangeFuncFrom
import Derived.Shelf.Abstract
import Derived.Shelf.RegionOpen
import Derived.OwnWalkIn
import Derived.TacticsInMore
import Derived.LoopNIn
import Derived.LoopIn
namespace Go.Proofs.Ytkdgnegnndedaaa.PW
open Go.RowKit Go.Shelf Go.Proofs.Ytkdgnegnndedaaa
open Go.Proofs.Ytkdgnegnndedaaa.PM
attribute [local go_sem] Oper.semAt_some

/-- Does a set have i? -/
def bit (s : Int) (i : Nat) : Bool := decide (bits BinOp.and IntKind.i64 (s / 2 ^ i) 1 = 1)
theorem bits_zero : bits BinOp.and IntKind.i64 0 1 = 0 := by decide +kernel
theorem div_high {s : Int} {k n : Nat} (h0 : 0 ≤ s) (h : s / 2 ^ k ≤ 0) (hk : k ≤ n) : s / 2 ^ n = 0 := by
  have hp : ∀ j : Nat, (0 : Int) < 2 ^ j := fun j => Int.pow_pos (by decide)
  have h1 : s < 2 ^ k := by
    by_cases c : s < 2 ^ k
    · exact c
    · have := Int.le_ediv_of_mul_le (hp k) (a := 1) (b := s) (by omega)
      omega
  have h2 : (2 : Int) ^ k ≤ 2 ^ n := by
    obtain ⟨d, rfl⟩ := Nat.exists_eq_add_of_le hk
    rw [Int.pow_add]
    have := Int.mul_le_mul_of_nonneg_left (show (1 : Int) ≤ 2 ^ d by have := hp d; omega) (Int.le_of_lt (hp k))
    omega
  exact Int.ediv_eq_zero_of_lt h0 (by omega)
theorem bit_high {s : Int} {k n : Nat} (h0 : 0 ≤ s) (h : s / 2 ^ k ≤ 0) (hk : k ≤ n) : bit s n = false := by
  unfold bit
  rw [div_high h0 h hk, bits_zero]
  rfl
theorem div_small {s : Int} {n : Nat} (h0 : 0 ≤ s) (h : s < 2 ^ n) : s / 2 ^ n ≤ 0 := by rw [Int.ediv_eq_zero_of_lt h0 h]; exact Int.le_refl _
/-- The members below k. -/
def memTo (n : Nat) (s : Int) : Nat → List (Fin n)
  | 0 => []
  | k + 1 => memTo n s k ++ (if h : k < n then (if bit s k then [⟨k, h⟩] else []) else [])
theorem memTo_yes {n : Nat} {s : Int} {k : Nat} (h : k < n) (hb : bit s k = true) : memTo n s (k + 1) = memTo n s k ++ [⟨k, h⟩] := by
  rw [memTo, dif_pos h, if_pos hb]
theorem memTo_no {n : Nat} {s : Int} {k : Nat} (hb : bit s k = false) : memTo n s (k + 1) = memTo n s k := by
  rw [memTo]
  by_cases h : k < n
  · rw [dif_pos h, if_neg (by simp [hb]), List.append_nil]
  · rw [dif_neg h, List.append_nil]
theorem memTo_length (n : Nat) (s : Int) (k : Nat) : (memTo n s k).length ≤ k := by
  induction k with
  | zero => simp [memTo]
  | succ k ih =>
    rw [memTo]
    split
    · split <;> simp <;> omega
    · simp; omega
theorem memTo_prefix (n : Nat) (s : Int) (k d : Nat) : memTo n s k <+: memTo n s (k + d) := by
  induction d with
  | zero => exact List.prefix_refl _
  | succ d ih => exact ih.trans ⟨_, rfl⟩

theorem memTo_high {n : Nat} {s : Int} {k : Nat} (h0 : 0 ≤ s) (h : s / 2 ^ k ≤ 0) (d : Nat) : memTo n s (k + d) = memTo n s k := by
  induction d with
  | zero => rfl
  | succ d ih => rw [Nat.add_succ, memTo_no (bit_high h0 h (by omega)), ih]
/-- A block is as it was. -/
def KB (b : Nat) (W W' : World) : Prop := W'.heap[b]? = W.heap[b]?
theorem KB.refl (b : Nat) (W : World) : KB b W W := rfl
theorem KB.trans {b : Nat} {A B C : World} (h : KB b A B) (k : KB b B C) : KB b A C := Eq.trans k h
theorem KB.cell {b : Nat} {W W' : World} (h : KB b W W') (o : Nat) : W'.cell? ⟨b, o, none⟩ = W.cell? ⟨b, o, none⟩ := World.cell?_of_block (w := W) (a := ⟨b, o, none⟩) h
theorem KB.put {b : Nat} {w : World} (hb : b < w.heap.size) (W : World) (l : Nat) (o o' : Obj) (h : w.heap.size ≤ l) (_ : W.heap[l]? = some o) (_ : o.isCells = false) (_ : o.isWalk = false) : KB b W (W.putObj l o') := by
  show (W.heap.setIfInBounds l o')[b]? = W.heap[b]?
  rw [Array.getElem?_setIfInBounds_ne (by omega)]

theorem membersOf_in (s : Int) (w : World) :
    CallsIn Fence.wide 7 Try.prog 76 #[.int .i64 s] w fun e w' => e = .returned (.func (.func 116) #[] #[.pointer (some ⟨w.heap.size, 0, none⟩)]) ∧ w' = w.alloc (.cells #[.int .i64 s] 2) := by
  refine callsIn_of_wp Try.func76 rfl trivial ?_ rfl
  simp only [Try.ntmps76, List.size_toArray, List.length_cons, List.length_nil, Nat.reduceAdd, Nat.reduceSub, Array.replicate_succ, Array.replicate_zero, List.push_toArray, List.append_toArray, List.nil_append, List.cons_append]
  gi_wp2
  go_ret
  exact ⟨rfl, rfl⟩

set_option maxRecDepth 100000 in
set_option maxHeartbeats 1000000 in
theorem members1_in (n : Nat) (hn5 : n ≤ 5) (s : Int) (h0s : 0 ≤ s) (hsn : s < 2 ^ n) (l Bs N : Nat) (J Jx : List (Fin n) → World → Prop) (hN : n ≤ N)
    (hY : ∀ pre x W, J pre W → pre.length < N → YieldAt Fence.wide 6 Try.prog l #[.int .i64 ((x : Fin n).val : Int)] W fun e W' =>
      (e = .returned (.bool true) ∧ J (pre ++ [x]) W' ∧ KB Bs W W') ∨ (e = .returned (.bool false) ∧ Jx (pre ++ [x]) W'))
    (W : World) (hcell : W.cell? ⟨Bs, 0, none⟩ = some (.int .i64 s)) (h0 : J [] W) :
    CallsIn Fence.wide 7 Try.prog 116 #[.func (.yield l) #[] #[], .pointer (some ⟨Bs, 0, none⟩)] W fun e W' => (∃ v, e = .returned v) ∧
      ((∃ ys, ys = memTo n s n ∧ J ys W') ∨ (∃ pre, pre <+: memTo n s n ∧ Jx pre W')) := by
  refine callsIn_of_wp Try.func116 rfl trivial ?_ rfl
  simp only [Try.ntmps116, List.size_toArray, List.length_cons, List.length_nil, Nat.reduceAdd, Nat.reduceSub, Array.replicate_succ, Array.replicate_zero, List.push_toArray, List.append_toArray, List.nil_append, List.cons_append]
  gi_wp2
  gi_loopw [3] (fun i wr => ∃ k : Nat, k ≤ n ∧ i = .int .i64 k ∧ J (memTo n s k) wr ∧ KB Bs W wr)
    (fun i _ => n - (intOf i).toNat)
  case atStart => exact ⟨0, Nat.zero_le _, rfl, h0, KB.refl _ _⟩
  case round =>
    obtain ⟨k, hk, rfl, hJs, hnx⟩ := hrel
    have hcx : wr.cell? ⟨Bs, 0, none⟩ = some (.int .i64 s) := (hnx.cell 0).trans hcell
    have hlen := memTo_length n s k
    by_cases hpos : 0 < s / 2 ^ k
    · have hkn : k < n := by
        rcases Nat.lt_or_ge k n with c | c
        · exact c
        · have := div_high h0s (div_small h0s hsn) c; omega
      by_cases hb : bits BinOp.and IntKind.i64 (s / 2 ^ k) 1 = 1
      · obtain ⟨fn, tmps, assign, body, hy, hR⟩ := hY _ ⟨k, hkn⟩ wr hJs (by omega)
        have hst : Hid (memTo n s (k + 1) = memTo n s k ++ [⟨k, hkn⟩]) := memTo_yes hkn (by unfold bit; exact decide_eq_true hb)
        dsimp only at hy
        gi_wp2
        refine hR.mono ?_
        rintro e W3 (⟨rfl, hJ3, hk3⟩ | ⟨rfl, hJx3⟩)
        · gi_wp2
          go_roundw
          case rel => exact ⟨k + 1, by omega, by go_num, by rw [hst.out]; exact hJ3, hnx.trans hk3⟩
          case measure => simp [intOf]; omega
        · gi_wp2
          refine bodyPost_ret (results_none rfl _ _ _) rfl ?_
          refine ⟨⟨_, rfl⟩, .inr ⟨_, ?_, hJx3⟩⟩
          rw [← hst.out]
          have := memTo_prefix n s (k + 1) (n - (k + 1))
          rwa [show k + 1 + (n - (k + 1)) = n by omega] at this
      · have hst : Hid (memTo n s (k + 1) = memTo n s k) := memTo_no (by unfold bit; exact decide_eq_false hb)
        gi_wp2
        refine ⟨fun _ h => (by cases h), ?_⟩
        gi_wp2
        go_roundw
        case rel => exact ⟨k + 1, by omega, by go_num, by rw [hst.out]; exact hJs, hnx⟩
        case measure => simp [intOf]; omega
    · have hst : Hid (memTo n s n = memTo n s k) := by
        have := memTo_high (n := n) (k := k) h0s (by omega) (n - k)
        rwa [show k + (n - k) = n by omega] at this
      have hneg : s / 2 ^ k ≤ 0 := by omega
      clear hpos
      gi_wp2
      go_end0
      exact ⟨⟨_, rfl⟩, .inl ⟨_, rfl, by rw [hst.out]; exact hJs⟩⟩

theorem members_stops (n : Nat) (hn5 : n ≤ 5) (s : Int) (h0s : 0 ≤ s) (hsn : s < 2 ^ n) (Bs : Nat) (w : World) (hBs : Bs < w.heap.size) (hc : w.cell? ⟨Bs, 0, none⟩ = some (.int .i64 s)) :
    SeqStopsK Fence.wide 7 Try.prog 116 #[.pointer (some ⟨Bs, 0, none⟩)] (fun x : Fin n => #[Value.int .i64 (x.val : Int)]) (KB Bs) (fun ys => ys = memTo n s n) (fun pre => pre <+: memTo n s n) n w := fun l J Jx W hW _ _ hY h0 => by
  have hc' := (hW.cell (p := ⟨Bs, 0, none⟩) hBs).trans hc
  exact members1_in n hn5 s h0s hsn l Bs n J Jx (Nat.le_refl _) hY W hc' h0
end Go.Proofs.Ytkdgnegnndedaaa.PW
