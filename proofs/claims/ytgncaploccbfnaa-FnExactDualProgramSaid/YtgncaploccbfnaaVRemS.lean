/-
  Walks: the remainder of a problem in whole numbers, in the model.
-/
import Derived.Test.YtgncaploccbfnaaVRemN
namespace Go.Proofs.Ytgncaploccbfnaa.PW
open Go.RowKit Go.Proofs.Ytgncaploccbfnaa
open Go.Proofs.Ytgncaploccbfnaa.PM

theorem range_snoc (F : Nat → Int) (k : Nat) : (List.range k).map F ++ [F k] = (List.range (k + 1)).map F := by simp [List.range_succ]

set_option maxRecDepth 100000 in
set_option maxHeartbeats 4000000 in
theorem l01Remainder_any (m q l : Value) (M : List (List Int)) (Q L : List Int) (d : Int) (w : World) (h1 : PM.Rows w m M) (h2 : Ints w q Q) (h3 : Ints w l L) (hp : isPB M Q = true) (hll : L.length = M.length) (hd : 0 ≤ d ∧ d ≤ 1000000000) (hL : ∀ t, t < M.length → -1000000000000 ≤ L.getD t 0 ∧ L.getD t 0 ≤ 1000000000000) :
    Calls Try.prog 81 #[.agg #[m, q], l, .int .i64 d] w fun e w' => ∃ g c, e = .returned (.slice (some ⟨g, 0, none⟩) M.length c) ∧ FreshI w.heap.size w' (.slice (some ⟨g, 0, none⟩) M.length c) (remL M Q L d) ∧ Below w.heap.size w w' := by
  obtain ⟨f1, f2, f3, f4, f5⟩ := isPB_facts hp
  obtain ⟨j0, hj, hyy0, hyy1, hyy2⟩ := info_parts info_int
  obtain ⟨b, off, c, rfl, hM⟩ := mat_at h1 f1 (fun i hi => (f4 i hi).1)
  obtain ⟨qb, qo, qc, rfl, _, hQ⟩ := list_at h2 (by omega)
  obtain ⟨lb, lo, lc, rfl, _, hLc⟩ := list_at h3 (by omega)
  have hbd := fun i (hi : i < M.length) => remTo_bd (L := L) hp hd hL hi
  have hprod : ∀ i t, i < M.length → t < M.length → -20000000000000 ≤ ent M i t * L.getD t 0 ∧ ent M i t * L.getD t 0 ≤ 20000000000000 := fun i t hi ht => by
    have a := (f4 i hi).2 t ht
    have b := hL t ht
    exact PM.mul_bd (A := 20) (B := 1000000000000) a.1 a.2 b.1 b.2
  rw [f3, hll]
  obtain ⟨F, hF⟩ : ∃ F : Nat → Nat → Int, F = remTo M Q L d := ⟨_, rfl⟩
  have hres : (List.range M.length).map (fun o => F o M.length) = remL M Q L d := by rw [hF]; rfl
  have hF0 : ∀ i, F i 0 = Q.getD i 0 * d := fun i => by rw [hF]; rfl
  have hF1 : ∀ i t, F i (t + 1) = F i t + ent M i t * L.getD t 0 := fun i t => by rw [hF]; rfl
  rw [← hF] at hbd
  have HM := Lib.hid hM
  have HQ := Lib.hid (fun wr hw i (hi : i < M.length) => hQ wr hw i (by omega))
  have HL := Lib.hid (fun wr hw i (hi : i < M.length) => hLc wr hw i (by omega))
  have HBD := Lib.hid hbd
  have HPR := Lib.hid hprod
  have HF0 := Lib.hid hF0
  have HF1 := Lib.hid hF1
  have HRES := Lib.hid hres
  clear h1 h2 h3 hM hQ hLc hbd hprod hF hF0 hF1 hres f3 f4 f5 hll hp hL
  obtain ⟨W0, hW0⟩ : ∃ W0, W0 = w.alloc (.cells #[.slice (some ⟨b, off, none⟩) M.length c, .slice (some ⟨qb, qo, none⟩) M.length qc] 27) := ⟨_, rfl⟩
  have hb0 : Below w.heap.size w W0 := by rw [hW0]; exact (Below.refl _ _).alloc (Nat.le_refl _) _
  have hz0 : w.heap.size < W0.heap.size := by rw [hW0]; simp
  have x0 : W0.cell? ⟨w.heap.size, 0, none⟩ = some (.slice (some ⟨b, off, none⟩) M.length c) := by rw [hW0]; simp
  have x1 : W0.cell? ⟨w.heap.size, 1, none⟩ = some (.slice (some ⟨qb, qo, none⟩) M.length qc) := by rw [hW0]; simp
  have HF0' := Lib.hid (freshI_nil W0)
  have hA0 : Below W0.heap.size W0 (W0.alloc (.cells #[] 2)) := (Below.refl _ _).alloc (Nat.le_refl _) _
  have HK := Lib.hid (fun wr (h : Below W0.heap.size W0 wr) => show wr.cell? ⟨w.heap.size, 0, none⟩ = some (.slice (some ⟨b, off, none⟩) M.length c) ∧ wr.cell? ⟨w.heap.size, 1, none⟩ = some (.slice (some ⟨qb, qo, none⟩) M.length qc) from
    ⟨(h.cell (p := ⟨w.heap.size, 0, none⟩) hz0).trans x0, (h.cell (p := ⟨w.heap.size, 1, none⟩) hz0).trans x1⟩)
  have HB0 := Lib.hid hb0
  have HW0 := Lib.hid hW0
  have hle0 := hb0.size
  clear hW0 hb0 x0 x1
  go_enter Try.func81, Try.ntmps81
  go_wp2_with fail
  rw [← HW0.out]
  rw [show w.heap.size + 1 = W0.heap.size by rw [HW0.out]; simp]
  clear HW0
  go_loopw [7, 8, 9, 10] (fun v i _ _ wr => ∃ o : Nat, o ≤ M.length ∧ i = .int .i64 o ∧ FreshI W0.heap.size wr v ((List.range o).map fun o => F o M.length) ∧ Below W0.heap.size W0 wr) (fun _ i _ _ _ => M.length - (intOf i).toNat)
  case atStart => exact ⟨0, Nat.zero_le _, rfl, HF0'.out, hA0⟩
  case round =>
    obtain ⟨o, ho, rfl, hO, hB⟩ := hrel
    obtain ⟨e0, e1⟩ := HK.out wr hB
    by_cases hlt : o < M.length
    · have q0 := HQ.out wr (HB0.out.trans (hB.mono hle0)) o hlt
      have hbd := HBD.out o hlt 0 (Nat.zero_le _)
      have hf0 := HF0.out o
      obtain ⟨q, hq⟩ : ∃ q, q = Q.getD o 0 := ⟨_, rfl⟩
      obtain ⟨f, hf⟩ : ∃ f, f = F o 0 := ⟨_, rfl⟩
      rw [← hq] at q0 hf0
      rw [← hf] at hbd hf0
      have hw1 : wrap64 f = f := IntWalk.wrap64_in _ (by omega)
      have hf0' := hf0.symm
      have HFF := Lib.hid hf
      have HO := Lib.hid hO
      have HB := Lib.hid hB
      have hzr := hB.size
      clear hbd hf0 hq hf hO hB
      obtain ⟨W1, rfl⟩ : ∃ W1, W1 = wr := ⟨_, rfl⟩
      go_wp2_with fail
      clear e0 e1 q0
      go_loopw [9, 10] (fun s i wi => ∃ (t : Nat) (S : Int), t ≤ M.length ∧ i = .int .i64 t ∧ s = .int .i64 S ∧ Hid (S = F o t) ∧ Below W1.heap.size W1 wi) (fun _ i _ => M.length - (intOf i).toNat)
      case atStart => exact ⟨0, f, Nat.zero_le _, rfl, (by first | rfl | rw [hw1]), HFF, Below.refl _ _⟩
      case round =>
        obtain ⟨t, S, ht, rfl, rfl, hS, hBi⟩ := hrel
        have hB2 := HB.out.trans (hBi.mono hzr)
        obtain ⟨e0, e1⟩ := HK.out wr hB2
        by_cases hltt : t < M.length
        · obtain ⟨r, ro, rd, hrow⟩ := HM.out o hlt
          obtain ⟨t0, y0⟩ := hrow wr (HB0.out.trans (hB2.mono hle0))
          have r0 := y0 t hltt
          have l0 := HL.out wr (HB0.out.trans (hB2.mono hle0)) t hltt
          have hbd1 := HBD.out o hlt (t + 1) (by omega)
          have hpr := HPR.out o t hlt hltt
          have hstep := HF1.out o t
          rw [← hS.out] at hstep
          obtain ⟨nx, hnx⟩ : ∃ nx, nx = L.getD t 0 := ⟨_, rfl⟩
          rw [← hnx] at l0 hpr hstep
          obtain ⟨a, ha⟩ : ∃ a, a = ent M o t := ⟨_, rfl⟩
          rw [← ha] at r0 hpr hstep
          obtain ⟨p, hp⟩ : ∃ p, p = a * nx := ⟨_, rfl⟩
          rw [← hp] at hpr hstep
          obtain ⟨f1', hf1⟩ : ∃ f1', f1' = F o (t + 1) := ⟨_, rfl⟩
          rw [← hf1] at hbd1 hstep
          have hw2 : wrap64 p = p := IntWalk.wrap64_in _ (by omega)
          have hw3 : wrap64 f1' = f1' := IntWalk.wrap64_in _ (by omega)
          have hw2' : IntKind.i64.wrap p = p := IntWalk.i64_in _ (by omega)
          have hw3' : IntKind.i64.wrap f1' = f1' := IntWalk.i64_in _ (by omega)
          have hp' := hp.symm
          have hstep' := hstep.symm
          have HF1' := Lib.hid hf1
          have HBd := Lib.hid (fun n => below_drewN hBi n)
          clear hbd1 hpr hstep hp hf1 ha hnx hrow y0 hB2 hBi hS
          go_wp2_with fail
          go_quiet (fail)
          go_wp2_with fail
          go_roundw
          case rel => exact ⟨t + 1, f1', by omega, by go_num, (by first | rfl | simp only [hw2, hstep', hw3]), HF1', HBd.out _⟩
          case measure => simp [intOf]; omega
        · obtain rfl : t = M.length := by omega
          have hO2 := HO.out.below hBi
          have how := hO2.owns
          rw [show ((List.range o).map fun o => F o M.length).length = o by simp] at how
          have HOW := Lib.hid how
          have HO2 := Lib.hid hO2
          have HSN := Lib.hid (range_snoc (fun o => F o M.length) o)
          have HB2 := Lib.hid hB2
          have hzi := hB2.size
          have hSx := hS.out
          have HSX := Lib.hid hSx
          clear hS hSx hBi hO2 how hB2
          go_wp2_with (at_builtin; refine wpList_append_lies _ rfl _ _ 23 rfl 0 2 j0 (.int .i64 0) 1 8 Try.underlying23 hj hyy0 hyy1 hyy2 rfl (by decide) u7 o _ rfl ((HOW.out).alloc _) _ 1 _ [.int .i64 S] rfl rfl (cell_one_new _ _ _) (by simp [Value.oneCell']) (by decide) (by unfold maxLen; omega) (by omega) (Nat.zero_le _) _ rfl ?_; intro g cap w3 hown hgrow hat hgl)
          have hpu := HO2.out.push (by omega) (by simp) hown hat hgl
          have hgr := HO2.out.grow HB2.out (by omega) hgrow
          rw [HSX.out, HSN.out] at hpu
          have HPU := Lib.hid hpu
          have HGR := Lib.hid hgr
          clear hpu hgr hown hgrow hat hgl
          go_wp2_with fail
          go_roundw
          case rel => exact ⟨o + 1, by omega, by go_num, HPU.out, HGR.out⟩
          case measure => simp [intOf]; omega
    · obtain rfl : o = M.length := by omega
      rw [HRES.out] at hO
      obtain ⟨g, cap, rfl, hg1, hg2⟩ := FreshI.shape2 (n := M.length) hO (by simp [remL])
      have HO := Lib.hid (hO.mono hle0)
      have HB := Lib.hid (HB0.out.trans (hB.mono hle0))
      clear hO hB
      go_wp2_with fail
      go_ret
      exact ⟨g, cap, rfl, HO.out, HB.out⟩
end Go.Proofs.Ytgncaploccbfnaa.PW
