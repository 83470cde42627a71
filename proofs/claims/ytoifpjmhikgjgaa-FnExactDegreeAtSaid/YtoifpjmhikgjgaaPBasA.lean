/-
  Walks: the basic sets of a problem with their points, one after the other, in the program; and the list of them.
-/
import Derived.Test.YtoifpjmhikgjgaaPSg
import Derived.RangeFuncBox
namespace Go.Proofs.Ytoifpjmhikgjgaa.PW
open Go.RowKit Go.Shelf Go.Proofs.Ytoifpjmhikgjgaa
open Go.Proofs.Ytoifpjmhikgjgaa.PM Go.Proofs.Ytoifpjmhikgjgaa.PX
attribute [local go_sem] Oper.semAt_some

/-- The basic sets below k. -/
def basTo (M : List (List Int)) : Nat → List Int
  | 0 => []
  | k + 1 => basTo M k ++ (if dt M.length (colS M k) = 0 then [] else [(k : Int)])
theorem basTo_length (M : List (List Int)) (k : Nat) : (basTo M k).length ≤ k := by
  induction k with
  | zero => simp [basTo]
  | succ k ih => rw [basTo]; split <;> simp <;> omega
theorem basTo_mem (M : List (List Int)) (k : Nat) : ∀ x ∈ basTo M k, 0 ≤ x ∧ x < k := by
  induction k with
  | zero => intro x hx; simp [basTo] at hx
  | succ k ih =>
    intro x hx
    rw [basTo, List.mem_append] at hx
    rcases hx with hx | hx
    · have := ih x hx; omega
    · split at hx
      · simp at hx
      · simp at hx; omega
theorem basTo_no {M : List (List Int)} {k : Nat} (h : dt M.length (colS M k) = 0) : basTo M (k + 1) = basTo M k := by rw [basTo, if_pos h, List.append_nil]
theorem basTo_yes {M : List (List Int)} {k : Nat} (h : dt M.length (colS M k) ≠ 0) : basTo M (k + 1) = basTo M k ++ [(k : Int)] := by rw [basTo, if_neg h]
theorem pt_bas {M : List (List Int)} {Q : List Int} (hp : isPB M Q = true) (k : Nat) (hk : k < 2 ^ M.length) :
    (ptOut M Q k = ([], 5) ∧ basTo M (k + 1) = basTo M k) ∨ (ptOut M Q k = (ptL M Q k, 0) ∧ basTo M (k + 1) = basTo M k ++ [(k : Int)]) := by
  have h : setCode M Q k = 0 := setCode_ok hp (fun c => by
    rcases c with c | c
    · omega
    · have : ((2 ^ M.length : Nat) : Int) ≤ (k : Int) := by rw [Int.natCast_pow]; exact c
      omega)
  by_cases hD : dt M.length (colS M k) = 0
  · exact .inl ⟨ptOut_zero h hD, basTo_no hD⟩
  · exact .inr ⟨ptOut_ok h hD, basTo_yes hD⟩
theorem grown_of_below {w w' : World} (h : Below w.heap.size w w') : w.grownBy w' none := ⟨h.os, h.tape, h.output, h.size, fun k hk _ => h.block k hk⟩

/-- What is told of a basic set and its point: the point's fractions lie there. -/
def ptAt (M : List (List Int)) (Q : List Int) (T : Nat) (x : Int × Value) (W : World) : Prop := OwnF W x.2 (ptL M Q x.1) ∧ ∃ k : Nat, k < T ∧ x.1 = (k : Int) ∧ basTo M (k + 1) = basTo M k ++ [(k : Int)]

theorem basicPoints_in (m q : Value) (w : World) :
    CallsIn Fence.wide 7 Try.prog 76 #[.agg #[m, q]] w fun e w' => e = .returned (.func (.func 108) #[] #[.pointer (some ⟨w.heap.size, 0, none⟩)]) ∧ w' = w.alloc (.cells #[m, q] 27) := by
  refine callsIn_of_wp Try.func76 rfl trivial ?_ rfl
  simp only [Try.ntmps76, List.size_toArray, List.length_cons, List.length_nil, Nat.reduceAdd, Nat.reduceSub, Array.replicate_succ, Array.replicate_zero, List.push_toArray, List.append_toArray, List.nil_append, List.cons_append]
  gi_wp2
  go_ret
  exact ⟨rfl, rfl⟩

set_option maxRecDepth 100000 in
set_option maxHeartbeats 2000000 in
theorem basic1_in (a1 a2 : Option Addr) (c1 c2 n T : Nat) (M : List (List Int)) (Q : List Int) (l Bs N : Nat) (J Jx : List (Int × Value) → World → Prop) (W0 W : World)
    (hn1 : 1 ≤ n) (hn5 : n ≤ 5) (hT : T = 2 ^ n) (hpt : ∀ k : Nat, k < T → (ptOut M Q k = ([], 5) ∧ basTo M (k + 1) = basTo M k) ∨ (ptOut M Q k = (ptL M Q k, 0) ∧ basTo M (k + 1) = basTo M k ++ [(k : Int)]))
    (hrm : PM.Rows W0 (.slice a1 n c1) M) (hrq : Ints W0 (.slice a2 n c2) Q) (hbx : Bs < W0.heap.size) (hc0 : W0.cell? ⟨Bs, 0, none⟩ = some (.slice a1 n c1)) (hc1 : W0.cell? ⟨Bs, 1, none⟩ = some (.slice a2 n c2))
    (hW : Below W0.heap.size W0 W) (hJ : AbidesFrom W.heap.size J) (hN : 32 ≤ N)
    (hY : ∀ pre x W1, J pre W1 → ptAt M Q T x W1 → pre.length < N → YieldAt Fence.wide 6 Try.prog l #[.int .i64 (Prod.fst x), Prod.snd x] W1 fun e W' =>
      (e = .returned (.bool true) ∧ J (pre ++ [x]) W' ∧ Below W0.heap.size W1 W') ∨ (e = .returned (.bool false) ∧ Jx (pre ++ [x]) W'))
    (h0 : J [] W) :
    CallsIn Fence.wide 7 Try.prog 108 #[.func (.yield l) #[] #[], .pointer (some ⟨Bs, 0, none⟩)] W fun e W' => (∃ v, e = .returned v) ∧
      ((∃ ys, ys.map Prod.fst = basTo M T ∧ J ys W') ∨ (∃ pre, True ∧ Jx pre W')) := by
  have HPT := Lib.hid hpt
  have HM := Lib.hid hrm
  have HQ := Lib.hid hrq
  have HW := Lib.hid hW
  have d0 := (hW.cell (p := ⟨Bs, 0, none⟩) hbx).trans hc0
  have HL := Lib.hid (basTo_length M)
  have hN' : ∀ xs : List (Int × Value), ∀ k, k < T → xs.map Prod.fst = basTo M k → xs.length < N := fun xs k hk h => by
    have e := congrArg List.length h
    rw [List.length_map] at e
    have := basTo_length M k
    have : T ≤ 32 := by
      rw [hT]
      have := Nat.pow_le_pow_right (show 0 < 2 by omega) hn5
      simpa using this
    omega
  have HN := Lib.hid hN'
  clear hpt hrm hrq hN' hN hW
  obtain rfl | rfl | rfl | rfl | rfl : n = 1 ∨ n = 2 ∨ n = 3 ∨ n = 4 ∨ n = 5 := by omega
  all_goals
    simp only [Nat.reducePow] at hT
    refine callsIn_of_wp Try.func108 rfl trivial ?_ rfl
    simp only [Try.ntmps108, List.size_toArray, List.length_cons, List.length_nil, Nat.reduceAdd, Nat.reduceSub, Array.replicate_succ, Array.replicate_zero, List.push_toArray, List.append_toArray, List.nil_append, List.cons_append]
    gi_wp2
    gi_loopw [3, 4, 5, 10] (fun _ _ _ i wr => ∃ (k : Nat) (xs : List (Int × Value)), k ≤ T ∧ i = .int .i64 k ∧ xs.map Prod.fst = basTo M k ∧ J xs wr ∧ Below W0.heap.size W0 wr ∧ W.heap.size ≤ wr.heap.size) (fun _ _ _ i _ => T - (intOf i).toNat)
    case atStart => exact ⟨0, [], Nat.zero_le _, rfl, rfl, h0, HW.out, Nat.le_refl _⟩
    case round =>
      obtain ⟨k, xs, hk, rfl, hxs, hJs, hB, hz⟩ := hrel
      have d0 := (hB.cell (p := ⟨Bs, 0, none⟩) hbx).trans hc0
      have d1 := (hB.cell (p := ⟨Bs, 1, none⟩) hbx).trans hc1
      by_cases hlt : k < T
      · have hpo := implPointOf_any _ _ M Q k wr (HM.out.below hB) (HQ.out.below hB)
        have hlen := HN.out xs k hlt hxs
        have HXS := Lib.hid hxs
        have HJS := Lib.hid hJs
        have HB := Lib.hid hB
        rcases HPT.out k hlt with ⟨hp1, hp2⟩ | ⟨hp1, hp2⟩
        · rw [hp1] at hpo
          rw [← hp2] at hxs
          have HPO := Lib.hid hpo
          have HX2 := Lib.hid hxs
          clear hpo hp1 hp2 hxs hJs hB
          gi_wp2_with fail
          refine ⟨trivial, ?_⟩
          gi_at_call 30
          refine (callsIn_wide.2 HPO.out).mono ?_
          rintro e w2 ho
          obtain ⟨a3, c3, rfl, hr, hb2⟩ := ho.out
          have hJ2 := hJ _ _ _ none HJS.out (grown_of_below hb2) (fun r e => by cases e)
          have hB2 := HB.out.trans (hb2.mono HB.out.size)
          have hz2 := hb2.size
          have HJ2 := Lib.hid hJ2
          have HB2 := Lib.hid hB2
          dsimp only
          clear ho hr hJ2 hB2
          gi_wp2
          refine ⟨fun _ h => (by cases h), ?_⟩
          gi_wp2
          go_roundw
          case rel => exact ⟨k + 1, xs, by omega, by go_num, HX2.out, HJ2.out, HB2.out, by omega⟩
          case measure => simp [intOf]; omega
        · rw [hp1] at hpo
          have hx2 : ∀ v : Value, (xs ++ [((k : Int), v)]).map Prod.fst = basTo M (k + 1) := fun v => by rw [List.map_append, hxs, hp2]; rfl
          have HPO := Lib.hid hpo
          have HX2 := Lib.hid hx2
          have HP2 := Lib.hid hp2
          clear hpo hp1 hp2 hxs hJs hB hx2
          gi_wp2_with fail
          refine ⟨trivial, ?_⟩
          gi_at_call 30
          refine (callsIn_wide.2 HPO.out).mono ?_
          rintro e w2 ho
          obtain ⟨a3, c3, rfl, hr, hb2⟩ := ho.out
          have hJ2 := hJ _ _ _ none HJS.out (grown_of_below hb2) (fun r e => by cases e)
          have hB2 := HB.out.trans (hb2.mono HB.out.size)
          have hz2 := hb2.size
          have HJ2 := Lib.hid hJ2
          have HB2 := Lib.hid hB2
          dsimp only at hr
          dsimp only
          have hE : ptAt M Q T ((k : Int), .slice a3 (ptL M Q k).length c3) w2 := ⟨hr.own, k, hlt, rfl, HP2.out⟩
          obtain ⟨L, hL⟩ : ∃ L, L = (ptL M Q k).length := ⟨_, rfl⟩
          rw [← hL] at hE ⊢
          clear ho hr hJ2 hB2 hL
          obtain ⟨fn, tmps, assign, body, hy, hR⟩ := hY _ ((k : Int), .slice a3 L c3) w2 HJ2.out hE hlen
          have HR := Lib.hid hR
          dsimp only at hy
          clear hR hE
          gi_wp2
          refine HR.out.mono ?_
          rintro e W3 (⟨rfl, hJ3, hk3⟩ | ⟨rfl, hJx3⟩)
          · have HJ3 := Lib.hid hJ3
            have HB3 := Lib.hid (HB2.out.trans hk3)
            have hz3 := hk3.size
            clear hJ3 hk3
            gi_wp2
            go_roundw
            case rel => exact ⟨k + 1, _, by omega, by go_num, HX2.out _, HJ3.out, HB3.out, by omega⟩
            case measure => simp [intOf]; omega
          · have HJ3 := Lib.hid hJx3
            clear hJx3
            gi_wp2
            refine bodyPost_ret (results_none rfl _ _ _) rfl ?_
            exact ⟨⟨_, rfl⟩, .inr ⟨_, trivial, HJ3.out⟩⟩
      · obtain rfl : k = T := by omega
        have HXS := Lib.hid hxs
        have HJS := Lib.hid hJs
        clear hxs hJs hB
        gi_wp2
        go_end0
        exact ⟨⟨_, rfl⟩, .inl ⟨_, HXS.out, HJS.out⟩⟩
end Go.Proofs.Ytoifpjmhikgjgaa.PW
