/-
  The list of the feasible sets: the model's answer.
-/
import Derived.Test.YtoifpjmhikgjgaaPBasC
import Derived.Test.YtoifpjmhikgjgaaPNonA
namespace Go.Proofs.Ytoifpjmhikgjgaa.PW
open Go.RowKit Go.Proofs.Ytoifpjmhikgjgaa
open Go.Proofs.Ytoifpjmhikgjgaa.PM Go.Proofs.Ytoifpjmhikgjgaa.PX

/-- The feasible sets below k. -/
def feaTo (M : List (List Int)) (Q : List Int) : Nat → List Int
  | 0 => []
  | k + 1 => feaTo M Q k ++ (if feasB M Q k = true then [(k : Int)] else [])
theorem feaTo_length (M : List (List Int)) (Q : List Int) (k : Nat) : (feaTo M Q k).length ≤ k := by
  induction k with
  | zero => simp [feaTo]
  | succ k ih => rw [feaTo]; split <;> simp <;> omega
theorem feaTo_mem (M : List (List Int)) (Q : List Int) (k : Nat) : ∀ x ∈ feaTo M Q k, 0 ≤ x ∧ x < k := by
  induction k with
  | zero => intro x hx; simp [feaTo] at hx
  | succ k ih =>
    intro x hx
    rw [feaTo, List.mem_append] at hx
    rcases hx with hx | hx
    · have := ih x hx; omega
    · split at hx
      · simp at hx; omega
      · simp at hx
theorem feaTo_no {M : List (List Int)} {Q : List Int} {k : Nat} (h : feasB M Q k = false) : feaTo M Q (k + 1) = feaTo M Q k := by rw [feaTo, if_neg (by rw [h]; exact Bool.noConfusion), List.append_nil]
theorem feaTo_yes {M : List (List Int)} {Q : List Int} {k : Nat} (h : feasB M Q k = true) : feaTo M Q (k + 1) = feaTo M Q k ++ [(k : Int)] := by rw [feaTo, if_pos h]
def fsOut (M : List (List Int)) (Q : List Int) : List Int × Int := if isPB M Q = true then (feaTo M Q (2 ^ M.length), 0) else ([], 1)
theorem fsOut_ok {M : List (List Int)} {Q : List Int} (h : isPB M Q = true) : fsOut M Q = (feaTo M Q (2 ^ M.length), 0) := by unfold fsOut; rw [if_pos h]
theorem fsOut_no {M : List (List Int)} {Q : List Int} (h : isPB M Q = false) : fsOut M Q = ([], 1) := by unfold fsOut; rw [if_neg (by rw [h]; exact Bool.noConfusion)]
theorem fine_fs (M : List (List Int)) (Q : List Int) : FineI (fsOut M Q).1 := by
  cases h : isPB M Q
  · rw [fsOut_no h]; exact fineI_nil
  · rw [fsOut_ok h]
    have hl := feaTo_length M Q (2 ^ M.length)
    have h5 := Nat.pow_le_pow_right (show 0 < 2 by omega) (isPB_facts h).2.1
    refine ⟨fun x hx => ?_, ?_⟩
    · have := feaTo_mem M Q _ x hx
      unfold I64
      omega
    · show (feaTo M Q (2 ^ M.length)).length ≤ _
      omega

set_option maxRecDepth 100000 in
set_option maxHeartbeats 4000000 in
theorem specFeasibleSets_ok (a1 a2 : Option Addr) (c1 c2 n T : Nat) (M : List (List Int)) (Q : List Int) (w : World) (hp : isPB M Q = true) (hn : n = M.length) (hT : T = 2 ^ n) (hrm : PM.Rows w (.slice a1 n c1) M) (hrq : Ints w (.slice a2 n c2) Q) :
    Calls Try.prog 45 #[.agg #[.slice a1 n c1, .slice a2 n c2]] w fun e w' => ∃ g c, e = .returned (.tuple #[.slice (some ⟨g, 0, none⟩) (feaTo M Q T).length c, .int .i64 0]) ∧ FreshI w.heap.size w' (.slice (some ⟨g, 0, none⟩) (feaTo M Q T).length c) (feaTo M Q T) ∧ Below w.heap.size w w' := by
  obtain ⟨f1, f2, _, _, _⟩ := isPB_facts hp
  have hfe := fun (w' : World) (hb : Below w.heap.size w w') (k : Nat) => l02Feasible_any _ _ M Q k w' (hrm.below hb) (hrq.below hb) hp
  have his := fun (w' : World) (hb : Below w.heap.size w w') => l01Is_any _ _ M Q w' (hrm.below hb) (hrq.below hb)
  rw [hp] at his
  have hn1 : 1 ≤ n := by omega
  have hn5 : n ≤ 5 := by omega
  have HFE := Lib.hid hfe
  have HIS := Lib.hid his
  have HL := Lib.hid (feaTo_length M Q)
  have HNO := Lib.hid (fun (k : Nat) h => feaTo_no (M := M) (Q := Q) (k := k) h)
  have HYS := Lib.hid (fun (k : Nat) h => feaTo_yes (M := M) (Q := Q) (k := k) h)
  have hT32 : T ≤ 32 := by
    rw [hT]
    have := Nat.pow_le_pow_right (show 0 < 2 by omega) hn5
    simpa using this
  obtain ⟨j0, hj, hyy0, hyy1, hyy2⟩ := info_parts info_int
  obtain ⟨W0, hW0⟩ : ∃ W0, W0 = w.alloc (.cells #[.slice a1 n c1, .slice a2 n c2] 27) := ⟨_, rfl⟩
  have b0 : Below w.heap.size w W0 := by rw [hW0]; exact (Below.refl _ _).alloc (Nat.le_refl _) _
  have x0 : W0.cell? ⟨w.heap.size, 0, none⟩ = some (.slice a1 n c1) := by rw [hW0]; simp
  have x1 : W0.cell? ⟨w.heap.size, 1, none⟩ = some (.slice a2 n c2) := by rw [hW0]; simp
  have hbx : w.heap.size < W0.heap.size := by rw [hW0]; simp
  have B0 := Lib.hid b0
  have HW0 := Lib.hid hW0
  have X0 := Lib.hid x0
  have X1 := Lib.hid x1
  clear hfe his f1 f2 hp hrm hrq hn hW0 b0
  obtain rfl | rfl | rfl | rfl | rfl : n = 1 ∨ n = 2 ∨ n = 3 ∨ n = 4 ∨ n = 5 := by omega
  all_goals
    simp only [Nat.reducePow] at hT
    clear hn1 hn5
    go_enter Try.func45, Try.ntmps45
    go_wp2_with fail
    rw [← HW0.out]
    clear HW0
    refine (HIS.out _ B0.out).mono ?_; rintro e w1 ⟨rfl, hb1⟩
    have HB1 := Lib.hid hb1
    have hz1 := hb1.size
    clear hb1 x0 x1
    go_wp2_with fail
    go_loopw [4, 5] (fun v i wr => ∃ k : Nat, k ≤ T ∧ i = .int .i64 k ∧ FreshI w1.heap.size wr v (feaTo M Q k) ∧ Below w1.heap.size w1 wr) (fun _ i _ => T - (intOf i).toNat)
    case atStart => exact ⟨0, Nat.zero_le _, rfl, freshI_nil w1, (Below.refl _ _).alloc (Nat.le_refl _) _⟩
    case round =>
      obtain ⟨k, hk, rfl, hO, hB⟩ := hrel
      have d0 := (hB.cell (p := ⟨w.heap.size, 0, none⟩) (by show w.heap.size < w1.heap.size; omega)).trans ((HB1.out.cell (p := ⟨w.heap.size, 0, none⟩) hbx).trans X0.out)
      have d1 := (hB.cell (p := ⟨w.heap.size, 1, none⟩) (by show w.heap.size < w1.heap.size; omega)).trans ((HB1.out.cell (p := ⟨w.heap.size, 1, none⟩) hbx).trans X1.out)
      have HO := Lib.hid hO
      have HB := Lib.hid hB
      have hbw := B0.out.trans (HB1.out.mono B0.out.size)
      by_cases hlt : k < T
      · have hfk := HFE.out wr (hbw.trans (hB.mono hbw.size)) k
        have HN := Lib.hid (HNO.out k)
        have HY := Lib.hid (HYS.out k)
        cases hF : feasB M Q k
        · rw [hF] at hfk
          have HFK := Lib.hid hfk
          have HX := Lib.hid (HN.out hF)
          clear hfk hF hO hB hbw
          go_wp2_with fail
          refine HFK.out.mono ?_; rintro e w2 ⟨rfl, hb2⟩
          have HO2 := Lib.hid (HO.out.below hb2)
          have HB2 := Lib.hid (HB.out.trans (hb2.mono HB.out.size))
          clear hb2
          go_wp2_with fail
          go_roundw
          case rel => exact ⟨k + 1, by omega, by go_num, by rw [HX.out]; exact HO2.out, HB2.out⟩
          case measure => simp [intOf]; omega
        · rw [hF] at hfk
          have HFK := Lib.hid hfk
          have HX := Lib.hid (HY.out hF)
          clear hfk hF hO hB hbw
          go_wp2_with fail
          refine HFK.out.mono ?_; rintro e w2 ⟨rfl, hb2⟩
          have HO3 := Lib.hid (HO.out.below hb2)
          have HB3 := Lib.hid (HB.out.trans (hb2.mono HB.out.size))
          have hbl := HL.out k
          have how := HO3.out.owns
          obtain ⟨L, hL⟩ : ∃ L, L = (feaTo M Q k).length := ⟨_, rfl⟩
          rw [← hL] at how hbl
          have HOW := Lib.hid how
          have HLL := Lib.hid hL
          clear how hL hb2
          go_wp2_with (at_builtin; refine wpList_append_lies _ rfl _ _ 23 rfl 0 2 j0 (.int .i64 0) 1 8 Try.underlying23 hj hyy0 hyy1 hyy2 rfl (by decide) u4 L _ rfl ((HOW.out).alloc _) _ 1 _ [.int .i64 k] rfl rfl (cell_one_new _ _ _) (by simp [Value.oneCell']) (by decide) (by unfold maxLen; omega) (by omega) (Nat.zero_le _) _ rfl ?_; intro g5 cap5 w4 hown hgrow hat hgl)
          have hpu := HO3.out.push HB3.out.size HLL.out hown hat hgl
          have hgr := HO3.out.grow HB3.out HB3.out.size hgrow
          rw [← HX.out] at hpu
          have HPU := Lib.hid hpu
          have HGR := Lib.hid hgr
          clear hpu hgr hown hgrow hat hgl
          go_wp2_with fail
          go_roundw
          case rel => exact ⟨k + 1, by omega, by go_num, HPU.out, HGR.out⟩
          case measure => simp [intOf]; omega
      · obtain rfl : k = T := by omega
        obtain ⟨g5, c5, rfl, _, _⟩ := hO.shape rfl
        have HW := Lib.hid (hbw.trans (hB.mono hbw.size))
        have HZ := Lib.hid hbw.size
        clear hO hB hbw
        go_wp2_with fail
        go_ret2
        exact ⟨_, _, rfl, HO.out.mono HZ.out, HW.out⟩
end Go.Proofs.Ytoifpjmhikgjgaa.PW
