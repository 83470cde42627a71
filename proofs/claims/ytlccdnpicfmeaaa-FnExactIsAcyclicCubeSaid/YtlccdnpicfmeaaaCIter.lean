/-
  Walks: the members of a set of up to 32, one after the other (PIter's text, for greater sets).
-/
import Derived.Test.YtlccdnpicfmeaaaCGat
import Derived.Test.YtlccdnpicfmeaaaCAcy
namespace Go.Proofs.Ytlccdnpicfmeaaa.PW
open Go.RowKit Go.Shelf Go.Proofs.Ytlccdnpicfmeaaa
open Go.Proofs.Ytlccdnpicfmeaaa.PM
attribute [local go_sem] Oper.semAt_some

set_option maxRecDepth 100000 in
set_option maxHeartbeats 1000000 in
theorem members1_in32 (n : Nat) (hn5 : n ≤ 32) (s : Int) (h0s : 0 ≤ s) (hsn : s < 2 ^ n) (l Bs N : Nat) (J Jx : List (Fin n) → World → Prop) (hN : n ≤ N)
    (hY : ∀ pre x W, J pre W → pre.length < N → YieldAt Fence.wide 6 Try.prog l #[.int .i64 ((x : Fin n).val : Int)] W fun e W' =>
      (e = .returned (.bool true) ∧ J (pre ++ [x]) W' ∧ KB Bs W W') ∨ (e = .returned (.bool false) ∧ Jx (pre ++ [x]) W'))
    (W : World) (hcell : W.cell? ⟨Bs, 0, none⟩ = some (.int .i64 s)) (h0 : J [] W) :
    CallsIn Fence.wide 7 Try.prog 90 #[.func (.yield l) #[] #[], .pointer (some ⟨Bs, 0, none⟩)] W fun e W' => (∃ v, e = .returned v) ∧
      ((∃ ys, ys = memTo n s n ∧ J ys W') ∨ (∃ pre, pre <+: memTo n s n ∧ Jx pre W')) := by
  refine callsIn_of_wp Try.func90 rfl trivial ?_ rfl
  simp only [Try.ntmps90, List.size_toArray, List.length_cons, List.length_nil, Nat.reduceAdd, Nat.reduceSub, Array.replicate_succ, Array.replicate_zero, List.push_toArray, List.append_toArray, List.nil_append, List.cons_append]
  gi_wp2
  gi_loopw [3] (fun i wr => ∃ k : Nat, k ≤ n ∧ i = .int .i64 k ∧ J (memTo n s k) wr ∧ KB Bs W wr)
    (fun i _ => n - (intOf i).toNat)
  case atStart => exact ⟨0, Nat.zero_le _, rfl, h0, KB.refl _ _⟩
  case round =>
    obtain ⟨k, hk, rfl, hJs, hnx⟩ := hrel
    have hcx : wr.cell? ⟨Bs, 0, none⟩ = some (.int .i64 s) := (hnx.cell 0).trans hcell
    have hlen := memTo_length n s k
    by_cases hpos : 0 < s / 2 ^ k
    · have hkn : k < n := by
        rcases Nat.lt_or_ge k n with c | c
        · exact c
        · have := div_high h0s (div_small h0s hsn) c; omega
      by_cases hb : bits BinOp.and IntKind.i64 (s / 2 ^ k) 1 = 1
      · obtain ⟨fn, tmps, assign, body, hy, hR⟩ := hY _ ⟨k, hkn⟩ wr hJs (by omega)
        have hst : Hid (memTo n s (k + 1) = memTo n s k ++ [⟨k, hkn⟩]) := memTo_yes hkn (by unfold bit; exact decide_eq_true hb)
        dsimp only at hy
        gi_wp2
        refine hR.mono ?_
        rintro e W3 (⟨rfl, hJ3, hk3⟩ | ⟨rfl, hJx3⟩)
        · gi_wp2
          go_roundw
          case rel => exact ⟨k + 1, by omega, by go_num, by rw [hst.out]; exact hJ3, hnx.trans hk3⟩
          case measure => simp [intOf]; omega
        · gi_wp2
          refine bodyPost_ret (results_none rfl _ _ _) rfl ?_
          refine ⟨⟨_, rfl⟩, .inr ⟨_, ?_, hJx3⟩⟩
          rw [← hst.out]
          have := memTo_prefix n s (k + 1) (n - (k + 1))
          rwa [show k + 1 + (n - (k + 1)) = n by omega] at this
      · have hst : Hid (memTo n s (k + 1) = memTo n s k) := memTo_no (by unfold bit; exact decide_eq_false hb)
        gi_wp2
        refine ⟨fun _ h => (by cases h), ?_⟩
        gi_wp2
        go_roundw
        case rel => exact ⟨k + 1, by omega, by go_num, by rw [hst.out]; exact hJs, hnx⟩
        case measure => simp [intOf]; omega
    · have hst : Hid (memTo n s n = memTo n s k) := by
        have := memTo_high (n := n) (k := k) h0s (by omega) (n - k)
        rwa [show k + (n - k) = n by omega] at this
      have hneg : s / 2 ^ k ≤ 0 := by omega
      clear hpos
      gi_wp2
      go_end0
      exact ⟨⟨_, rfl⟩, .inl ⟨_, rfl, by rw [hst.out]; exact hJs⟩⟩

theorem members_stops32 (n : Nat) (hn5 : n ≤ 32) (s : Int) (h0s : 0 ≤ s) (hsn : s < 2 ^ n) (Bs : Nat) (w : World) (hBs : Bs < w.heap.size) (hc : w.cell? ⟨Bs, 0, none⟩ = some (.int .i64 s)) :
    SeqStopsK Fence.wide 7 Try.prog 90 #[.pointer (some ⟨Bs, 0, none⟩)] (fun x : Fin n => #[Value.int .i64 (x.val : Int)]) (KB Bs) (fun ys => ys = memTo n s n) (fun pre => pre <+: memTo n s n) n w := fun l J Jx W hW _ _ hY h0 => by
  have hc' := (hW.cell (p := ⟨Bs, 0, none⟩) hBs).trans hc
  exact members1_in32 n hn5 s h0s hsn l Bs n J Jx (Nat.le_refl _) hY W hc' h0
end Go.Proofs.Ytlccdnpicfmeaaa.PW
