/-
  Walks: the longest walk along edges, in the program.
-/
import Derived.Test.YtlccdnpicfmeaaaCWos
namespace Go.Proofs.Ytlccdnpicfmeaaa.PW
open Go.RowKit Go.Proofs.Ytlccdnpicfmeaaa Go.Proofs.Ytlccdnpicfmeaaa.SW
open Go.Proofs.Ytlccdnpicfmeaaa.PM

theorem code_whole (n : Nat) (f : Nat → Nat) (h : n ≤ 5) : code (Rm n f 0) (2 ^ n) = 2 ^ 2 ^ n - 1 := by
  show code (fun _ => true) (2 ^ n) = _
  obtain rfl | rfl | rfl | rfl | rfl | rfl : n = 0 ∨ n = 1 ∨ n = 2 ∨ n = 3 ∨ n = 4 ∨ n = 5 := by omega
  all_goals decide +kernel
theorem wholeSet_T (n : Nat) (f : Nat → Nat) (h1 : 1 ≤ n) (h5 : n ≤ 5) (w : World) : Calls Try.prog 93 #[.int .i64 ((2 ^ n : Nat) : Int)] w fun e w' => e = .returned (.int .i64 ((code (Rm n f 0) (2 ^ n) : Nat) : Int)) ∧ w' = w := by
  rw [code_whole n f h5]
  obtain rfl | rfl | rfl | rfl | rfl : n = 1 ∨ n = 2 ∨ n = 3 ∨ n = 4 ∨ n = 5 := by omega
  all_goals
    simp only [Nat.reducePow, Nat.reduceSub]
    go_enter Try.func93, Try.ntmps93
    go_wp2
    all_goals (go_ret; exact ⟨rfl, rfl⟩)
def lpP (n : Nat) (f : Nat → Nat) : Int := if acyB n f = true then (lpN n f : Int) else 0

set_option maxRecDepth 100000 in
set_option maxHeartbeats 4000000 in
theorem longestPath_any (O : List Int) (n : Nat) (w : World) (hc : isCB n O = true) (hn1 : 1 ≤ n) (hn : n ≤ 5) :
    Calls Try.prog 72 #[arrV fun j => O.getD j 0, .int .i64 n] w fun e w' => e = .returned (.tuple #[.int .i64 (lpP n (fO O)), .bool (acyB n (fO O))]) ∧ Below w.heap.size w w' := by
  have hwn := wrap_pow hn
  have hT32 := pow_le_32 hn
  have HFO := Lib.hid (show ∀ j, j < 2 ^ n → O.getD j 0 = ((fO O j : Nat) : Int) ∧ fO O j < 2 ^ n from fun j hj => ⟨(uE_nat hc hn hj hj).2.2, (uE_nat hc hn hj hj).2.1⟩)
  obtain ⟨F, hF⟩ : ∃ F : Nat → Int, F = fun j => O.getD j 0 := ⟨_, rfl⟩
  obtain ⟨f, hf⟩ : ∃ f, f = fO O := ⟨_, rfl⟩
  rw [← hf] at HFO ⊢
  rw [← hF]
  have HWS := Lib.hid (fun (t : Nat) (w' : World) => show Calls Try.prog 94 #[.agg (arrC F), .int .i64 ((code (Rm n f t) (2 ^ n) : Nat) : Int)] w' fun e w'' => e = .returned (.int .i64 ((code (Rm n f (t + 1)) (2 ^ n) : Nat) : Int)) ∧ Below w'.heap.size w' w'' by
    have h := callsIn_wide.1 (withoutSinks_in F f n (2 ^ n) (code (Rm n f t) (2 ^ n)) w' hn rfl (code_lt _ _) (fun j hj => by rw [hF]; exact HFO.out j hj))
    rw [turn_code hn (fun v hv => (HFO.out v hv).2)] at h
    exact h)
  have HWH := Lib.hid (fun w' => wholeSet_T n f hn1 hn w')
  have HEQ := Lib.hid (fun (t : Nat) (h : code (Rm n f (t + 1)) (2 ^ n) = code (Rm n f t) (2 ^ n)) => code_eq h)
  have HZE := Lib.hid (fun (t : Nat) => code_zero (A := Rm n f t) (k := 2 ^ n))
  have HLT := Lib.hid (fun (t : Nat) (h : Turn n f t) => turn_lt h)
  have HEN := Lib.hid (fun (t : Nat) (h : Turn n f t) => turn_end h)
  have HCY := Lib.hid (fun (t : Nat) (h : Turn n f t) => turn_cycle h)
  have HNX := Lib.hid (fun (t : Nat) (h : Turn n f t) => turn_next h)
  have HT0 := Lib.hid (turn_zero n f)
  have HCG := Lib.hid (fun (t : Nat) (h : ∀ v, v < 2 ^ n → Rm n f (t + 1) v = Rm n f t v) => code_congr h)
  obtain ⟨c, hcd⟩ : ∃ c : Nat → Nat, ∀ t, code (Rm n f t) (2 ^ n) = c t := ⟨fun t => code (Rm n f t) (2 ^ n), fun _ => rfl⟩
  simp only [hcd] at HWS HWH HEQ HZE HCG
  have hTi : (2 : Int) ^ n = ((2 ^ n : Nat) : Int) := by rw [Int.natCast_pow]; rfl
  have HLP := Lib.hid (show acyB n f = true → lpP n f = (lpN n f : Int) from fun h => by unfold lpP; rw [if_pos h])
  have HLZ := Lib.hid (show acyB n f = false → lpP n f = 0 from fun h => by unfold lpP; rw [if_neg (by simp [h])])
  generalize lpP n f = LP at *
  generalize hAC : acyB n f = AC at *
  generalize hLN : lpN n f = LN at *
  have HA0 := Lib.hid (show Arr (w.alloc (.cells (arrC F) 76)) w.heap.size F from heap_alloc_new w _)
  unfold arrV
  have HTT := Lib.hid hT32
  have hn63 : (n : Int) ≤ 63 := by omega
  clear hc hF hf hcd HFO hAC hLN
  generalize 2 ^ n = T at *
  go_enter Try.func72, Try.ntmps72
  go_wp2_with fail
  refine (HWH.out _).mono ?_
  rintro e w2 ⟨rfl, rfl⟩
  obtain ⟨W0, hW0⟩ : ∃ W0, W0 = w.alloc (.cells (arrC F) 76) := ⟨_, rfl⟩
  have hb0 : Below w.heap.size w W0 := by rw [hW0]; exact (Below.refl _ _).alloc (Nat.le_refl _) _
  have hz0 : w.heap.size < W0.heap.size := by rw [hW0]; simp
  rw [← hW0] at HA0 ⊢
  have HB0 := Lib.hid hb0
  clear hW0 hb0 hwn hTi
  go_wp2_with fail
  go_loopw [6, 7, 8] (fun r l _ wr => ∃ t : Nat, Hid (Turn n f t) ∧ r = .int .i64 (c t : Int) ∧ l = .int .i64 t ∧ Below W0.heap.size W0 wr) (fun _ l _ _ => T - (intOf l).toNat)
  case atStart => exact ⟨0, HT0, rfl, by go_num, Below.refl _ _⟩
  case round =>
    obtain ⟨t, hT, rfl, rfl, hB⟩ := hrel
    have htlt := HLT.out t hT.out
    have htl : t < 32 := by have := HTT.out; omega
    have HA := Lib.hid (HA0.out.below hB hz0)
    have HB := Lib.hid hB
    have HW := Lib.hid (HWS.out t)
    have HMS : Hid (T - (t + 1) < T - t) := by show _ < _; omega
    clear hB htlt hT32
    go_wp2_with (refine wpList_load_row rfl 76 _ rfl w.heap.size rfl _ _ _ _ HA.out Try.underlying76 rfl (by rw [arrC_size]; exact info_arr) ?_)
    refine (HW.out _).mono ?_
    rintro e w3 ⟨rfl, hb3⟩
    have HB3 := Lib.hid (HB.out.trans (hb3.mono HB.out.size))
    clear hb3
    by_cases h0 : c (t + 1) = 0
    · obtain ⟨e1, e2⟩ := HEN.out t hT.out ((HZE.out (t + 1)).1 h0)
      have HR := Lib.hid (And.intro e1 ((HLP.out e1).trans (by rw [e2])))
      rw [h0]
      clear h0 e1 e2
      go_wp2_with fail
      go_ret2
      exact ⟨by rw [HR.out.1, HR.out.2]; rfl, HB0.out.trans (HB3.out.mono HB0.out.size)⟩
    · have h0b : ((c (t + 1) : Int) == 0) = false := by simpa using h0
      by_cases h1 : c (t + 1) = c t
      · have e1 := HCY.out t hT.out (HEQ.out t h1)
        have HR := Lib.hid (And.intro e1 (HLZ.out e1))
        rw [h1] at h0b ⊢
        clear h0 h1 e1
        go_wp2_with fail
        go_ret2
        exact ⟨by rw [HR.out.1, HR.out.2]; rfl, HB0.out.trans (HB3.out.mono HB0.out.size)⟩
      · have h1b : ((c (t + 1) : Int) == (c t : Int)) = false := by simp; omega
        have hex : ∃ v, v < T ∧ Rm n f (t + 1) v = true := by
          refine Classical.byContradiction (fun hno => h0 ((HZE.out (t + 1)).2 (fun v hv => ?_)))
          cases hb : Rm n f (t + 1) v
          · rfl
          · exact absurd ⟨v, hv, hb⟩ hno
        have hex2 : ∃ v, v < T ∧ Rm n f (t + 1) v ≠ Rm n f t v := by
          refine Classical.byContradiction (fun hno => h1 (HCG.out t (fun v hv => ?_)))
          exact Classical.byContradiction (fun hne => hno ⟨v, hv, hne⟩)
        have HN := Lib.hid (HNX.out t hT.out hex hex2).1
        clear h0 h1 hex hex2
        go_wp2_with fail
        go_roundw
        case rel => exact ⟨t + 1, HN.out, rfl, by go_num, HB3.out⟩
        case measure => have := HMS.out; simp [intOf]; omega
end Go.Proofs.Ytlccdnpicfmeaaa.PW
