/-
  The exact law of FormAt: the model's answer, and the law.
-/
import Derived.Test.YtillndnamechdaaQForm
namespace Go.Proofs.Ytillndnamechdaa.PW
open Go.RowKit Go.Proofs.Ytillndnamechdaa
open Go.Proofs.Ytillndnamechdaa.PM Go.Proofs.Ytillndnamechdaa.PX

set_option maxRecDepth 100000 in
set_option maxHeartbeats 1000000 in
theorem specFormAt_any (m q : Value) (M : List (List Int)) (X : List Int) (w : World) (h1 : PM.Rows w m M) (h2 : Ints w q X) : Calls Try.prog 39 #[m, q] w (OutN w (formOut M X)) := by
  have HS := Lib.hid (l01Matrix_any m M w h1)
  cases hM : matB M
  · rw [formOut_err1 hM]
    obtain ⟨a1, c1, rfl, _⟩ := h1
    obtain ⟨a2, c2, rfl, _⟩ := h2
    have HM := Lib.hid hM
    clear hM
    go_enter Try.func39, Try.ntmps39
    go_wp2_with fail
    refine HS.out.mono ?_; rw [HM.out]; rintro e w1 ⟨rfl, rfl⟩
    go_wp2_with fail
    go_ret2
    exact ⟨rfl, by (repeat' (first | (with_reducible exact Below.refl _ _) | (with_reducible assumption) | (with_reducible refine Below.alloc ?_ ?_ _) | (with_reducible refine Below.drew ?_) | (with_reducible refine below_drewN ?_ _) | (with_reducible refine Below.setCell ?_ ?_ _) | (with_reducible refine Below.trans ?_ (Below.mono (by with_reducible assumption) ?_)) | (with_reducible exact Below.size (by with_reducible assumption)) | go_size))⟩
  by_cases hl : X.length = M.length
  case neg =>
    rw [formOut_err2 hM (fun c => hl c.1)]
    obtain ⟨a1, c1, rfl, hl1, hm1, _⟩ := h1
    obtain ⟨a2, c2, rfl, hl2, hm2, _⟩ := h2
    have hm := maxLen_le (Nat.le_trans hl2 hm2)
    have hm' := maxLen_le (Nat.le_trans hl1 hm1)
    have hne : ((X.length : Int) != (M.length : Int)) = true := by simp; omega
    have HM := Lib.hid hM
    clear hM hl hl1 hl2 hm1 hm2
    go_enter Try.func39, Try.ntmps39
    go_wp2_with fail
    refine HS.out.mono ?_; rw [HM.out]; rintro e w1 ⟨rfl, rfl⟩
    go_wp2_with fail
    go_ret2
    exact ⟨rfl, by (repeat' (first | (with_reducible exact Below.refl _ _) | (with_reducible assumption) | (with_reducible refine Below.alloc ?_ ?_ _) | (with_reducible refine Below.drew ?_) | (with_reducible refine below_drewN ?_ _) | (with_reducible refine Below.setCell ?_ ?_ _) | (with_reducible refine Below.trans ?_ (Below.mono (by with_reducible assumption) ?_)) | (with_reducible exact Below.size (by with_reducible assumption)) | go_size))⟩
  obtain ⟨f1, f2, f3, f4⟩ := matB_facts hM
  have HO := Lib.hid (fun hw => formOut_ok hM ⟨hl, hw⟩)
  have HE := Lib.hid (fun (hw : wit 1000 X = false) => formOut_err2 hM (fun c => by rw [hw] at c; exact absurd c.2 (by simp)))
  have HWI := Lib.hid (wit_iff 1000 X)
  have HT : Hid (wit 1000 X = true → ∀ i k, i < M.length → k < M.length → (-20000 ≤ X.getD i 0 * ent M i k ∧ X.getD i 0 * ent M i k ≤ 20000) ∧ -20000000 ≤ X.getD i 0 * ent M i k * X.getD k 0 ∧ X.getD i 0 * ent M i k * X.getD k 0 ≤ 20000000) := fun hw i k hi hk => term_bd hM (fun j hj => (wit_iff 1000 X).1 hw j (by omega)) hi hk
  have HR : Hid (wit 1000 X = true → ∀ i, i < M.length → ∀ k, k ≤ M.length → -(20000000 * (k : Int)) ≤ frow M X i k ∧ frow M X i k ≤ 20000000 * (k : Int)) := fun hw i hi => frow_bd hM (fun j hj => (wit_iff 1000 X).1 hw j (by omega)) hi
  have HF : Hid (wit 1000 X = true → ∀ i, i ≤ M.length → -(100000000 * (i : Int)) ≤ fsum M X M.length i ∧ fsum M X M.length i ≤ 100000000 * (i : Int)) := fun hw => fsum_bd hM (fun j hj => (wit_iff 1000 X).1 hw j (by omega))
  obtain ⟨a1, c1, rfl, _⟩ := id h1
  obtain ⟨a2, c2, rfl, _⟩ := id h2
  rw [hl] at h2 ⊢
  have HMX : Hid (MX w a1 c1 a2 c2 M X) := ⟨h1, h2⟩
  have HC := Lib.hid (fun (w' : World) (hb : Below w.heap.size w w') (i k : Nat) (hi : i < M.length) (hk : k < M.length) => HMX.out.at_ hb f3 hl hi hk)
  obtain ⟨b, off, _, _, _, bx, ox, rfl, rfl, _⟩ := HC.out w (Below.refl _ _) 0 0 (by omega) (by omega)
  have HM := Lib.hid hM
  have HL := Lib.hid hl
  clear hM hl f3 f4 h1 h2 HMX
  go_enter Try.func39, Try.ntmps39
  go_wp2_with fail
  refine HS.out.mono ?_; rw [HM.out]; rintro e w1 ⟨rfl, rfl⟩
  go_wp2_with fail
  go_loop [6] (fun i => ∃ k : Nat, k ≤ M.length ∧ i = .int .i64 k ∧ Hid (∀ j, j < k → -1000 ≤ X.getD j 0 ∧ X.getD j 0 ≤ 1000)) (fun i => M.length - (intOf i).toNat)
  case atStart => exact ⟨0, Nat.zero_le _, rfl, fun j hj => absurd hj (Nat.not_lt_zero _)⟩
  case round =>
    obtain ⟨t, ht, rfl, hrng⟩ := hrel
    by_cases hltt : t < M.length
    · obtain ⟨b1, off1, bk, ok, ck, bx1, ox1, hv, hv', _, _, d3, _⟩ := HC.out w (Below.refl _ _) t t hltt hltt
      simp only [Option.some.injEq, Addr.mk.injEq, and_true] at hv hv'
      obtain ⟨rfl, rfl⟩ := hv
      obtain ⟨rfl, rfl⟩ := hv'
      by_cases hin : -1000 ≤ X.getD t 0 ∧ X.getD t 0 ≤ 1000
      · have hnext : Hid (∀ j, j < t + 1 → -1000 ≤ X.getD j 0 ∧ X.getD j 0 ≤ 1000) := fun j hj => by
          by_cases e : j = t
          · subst e; exact hin
          · exact hrng.out j (by omega)
        have hd : Hid (decide (-1000 ≤ X.getD t 0 ∧ X.getD t 0 ≤ 1000) = true) := decide_eq_true hin
        clear hin
        generalize X.getD t 0 = x at *
        go_wp2_with (go_at_call 53; refine (l01In_is _ _ _ _ _ hd.out).mono ?_; rintro e w' ⟨rfl, rfl⟩)
        go_round
        case rel => exact ⟨t + 1, by omega, by go_num, hnext⟩
        case measure => simp [intOf]; omega
      · have hno : Hid (formOut M X = (0, 2)) := HE.out (wit_no (by rw [HL.out]; exact hltt) hin)
        have hd : Hid (decide (-1000 ≤ X.getD t 0 ∧ X.getD t 0 ≤ 1000) = false) := decide_eq_false hin
        clear hin
        generalize X.getD t 0 = x at *
        go_wp2_with (go_at_call 53; refine (l01In_is _ _ _ _ _ hd.out).mono ?_; rintro e w' ⟨rfl, rfl⟩)
        go_ret2
        rw [hno.out]
        exact ⟨rfl, by (repeat' (first | (with_reducible exact Below.refl _ _) | (with_reducible assumption) | (with_reducible refine Below.alloc ?_ ?_ _) | (with_reducible refine Below.drew ?_) | (with_reducible refine below_drewN ?_ _) | (with_reducible refine Below.setCell ?_ ?_ _) | (with_reducible refine Below.trans ?_ (Below.mono (by with_reducible assumption) ?_)) | (with_reducible exact Below.size (by with_reducible assumption)) | go_size))⟩
    · obtain rfl : t = M.length := by omega
      have hw : wit 1000 X = true := HWI.out.2 (by rw [HL.out]; exact hrng.out)
      have HOK := Lib.hid (HO.out hw)
      have HT := Lib.hid (HT.out hw)
      have HR := Lib.hid (HR.out hw)
      have HF := Lib.hid (HF.out hw)
      clear hw hrng HO HE
      go_wp2_with fail
      go_loopw [7, 8, 9] (fun s c _ wr => ∃ (i : Nat), i ≤ M.length ∧ c = .int .i64 i ∧ s = .int .i64 (fsum M X M.length i) ∧ Below w.heap.size w wr) (fun _ c _ _ => M.length - (intOf c).toNat)
      case atStart => exact ⟨0, Nat.zero_le _, rfl, rfl, Below.refl _ _⟩
      case round =>
        obtain ⟨i, hi, rfl, rfl, hB⟩ := hrel
        obtain ⟨Wr, rfl⟩ : ∃ W, W = wr := ⟨_, rfl⟩
        by_cases hlt : i < M.length
        · have HB := Lib.hid hB
          have hfs := HF.out i (by omega)
          clear hB
          go_wp2_with fail
          go_loopw [7, 9] (fun s c wi => ∃ (k : Nat), k ≤ M.length ∧ c = .int .i64 k ∧ s = .int .i64 (fsum M X M.length i + frow M X i k) ∧ Below w.heap.size w wi) (fun _ c _ => M.length - (intOf c).toNat)
          case atStart => exact ⟨0, Nat.zero_le _, rfl, by simp [frow], HB.out⟩
          case round =>
            obtain ⟨k, hk, rfl, rfl, hBI⟩ := hrel
            by_cases hltk : k < M.length
            · obtain ⟨b', off', bk', ok', ck', bx', ox', hv, hv', d1, d2, d3, d4⟩ := HC.out wr hBI i k hlt hltk
              simp only [Option.some.injEq, Addr.mk.injEq, and_true] at hv hv'
              obtain ⟨rfl, rfl⟩ := hv
              obtain ⟨rfl, rfl⟩ := hv'
              obtain ⟨⟨p1, p2⟩, p3, p4⟩ := HT.out i k hlt hltk
              have hr := HR.out i hlt k hk
              have HN := Lib.hid (frow_succ M X i k)
              have HBI := Lib.hid hBI
              clear hBI
              generalize X.getD i 0 = x at *
              generalize ent M i k = y at *
              generalize X.getD k 0 = z at *
              generalize frow M X i k = r at *
              generalize fsum M X M.length i = s at *
              have i0 : (0 : Int) ≤ (i : Int) := by omega
              have i1 : (i : Int) < (M.length : Int) := by omega
              have k0 : (0 : Int) ≤ (k : Int) := by omega
              have k1 : (k : Int) < (M.length : Int) := by omega
              have hw1 : IntKind.i64.wrap (x * y) = x * y := IntWalk.i64_in _ (by omega)
              have hw2 : IntKind.i64.wrap (x * y * z) = x * y * z := IntWalk.i64_in _ (by omega)
              have hw3 : IntKind.i64.wrap (s + r + x * y * z) = s + r + x * y * z := IntWalk.i64_in _ (by omega)
              clear p1 p2 p3 p4 hr hfs
              go_wp2_with fail
              go_quiet (fail)
              go_wp2_with fail
              go_roundw
              case rel => exact ⟨k + 1, by omega, by go_num, by rw [HN.out, Int.add_assoc], below_drewN HBI.out _⟩
              case measure => simp [intOf]; omega
            · obtain rfl : k = M.length := by omega
              rw [← fsum_succ]
              have HBI := Lib.hid hBI
              clear hBI hfs
              obtain ⟨s, hs⟩ : ∃ s, s = fsum M X M.length (i + 1) := ⟨_, rfl⟩
              rw [← hs]
              have HSS := Lib.hid hs
              clear hs
              go_wp2_with fail
              go_roundw
              case rel => exact ⟨i + 1, by omega, by go_num, by rw [HSS.out], HBI.out⟩
              case measure => simp [intOf]; omega
        · obtain rfl : i = M.length := by omega
          have HOK' := HOK.out
          generalize fsum M X M.length M.length = s at *
          have HOK2 := Lib.hid HOK'
          clear HOK' HOK
          go_wp2_with fail
          go_ret2
          rw [HOK2.out]
          exact ⟨rfl, hB⟩

set_option maxHeartbeats 4000000 in
theorem law_FnExactFormAt (m : Value) (M : List (List Int)) (q : Value) (X : List Int) (w : World) (h1 : PM.Rows w m M) (h2 : Ints w q X) :
    Calls Try.prog 10 #[m, q] w fun e w' => e = .returned (.bool true) ∧ Below w.heap.size w w' := by
  have g1 := fun (w' : World) (h : Below w.heap.size w w') => h1.below h
  have g2 := fun (w' : World) (h : Below w.heap.size w w') => h2.below h
  have I1 := Lib.hid (rows_I64 h1)
  have I2 := Lib.hid (ints_I64 h2)
  obtain ⟨a1, c1, rfl, _⟩ := h1
  obtain ⟨a2, c2, rfl, hl2, hm2, _⟩ := h2
  have hm := maxLen_le (Nat.le_trans hl2 hm2)
  clear hl2 hm2
  by_cases hq : 1048576 < X.length
  · clear g1 g2
    generalize X.length = n at *
    go_enter Try.func10, Try.ntmps10
    go_wp2_with fail
    go_ret
    exact ⟨rfl, by (repeat' (first | (with_reducible exact Below.refl _ _) | (with_reducible assumption) | (with_reducible refine Below.alloc ?_ ?_ _) | (with_reducible refine Below.drew ?_) | (with_reducible refine below_drewN ?_ _) | (with_reducible refine Below.setCell ?_ ?_ _) | (with_reducible refine Below.trans ?_ (Below.mono (by with_reducible assumption) ?_)) | (with_reducible exact Below.size (by with_reducible assumption)) | go_size))⟩
  have hq' : X.length ≤ 1048576 := by omega
  clear hq
  by_cases hz : szR M 1048576 < 0
  · have e1 := szR_neg hz
    have E1 := Lib.hid e1
    clear hz e1
    go_enter Try.func10, Try.ntmps10
    go_wp2_with fail
    refine (szInt64SS_any _ M _ _ (g1 _ (by (repeat' (first | (with_reducible exact Below.refl _ _) | (with_reducible assumption) | (with_reducible refine Below.alloc ?_ ?_ _) | (with_reducible refine Below.drew ?_) | (with_reducible refine below_drewN ?_ _) | (with_reducible refine Below.setCell ?_ ?_ _) | (with_reducible refine Below.trans ?_ (Below.mono (by with_reducible assumption) ?_)) | (with_reducible exact Below.size (by with_reducible assumption)) | go_size)))) (by omega) (by omega)).mono ?_; rw [E1.out]; rintro e w1 ⟨rfl, rfl⟩
    go_wp2_with fail
    go_ret
    exact ⟨rfl, by (repeat' (first | (with_reducible exact Below.refl _ _) | (with_reducible assumption) | (with_reducible refine Below.alloc ?_ ?_ _) | (with_reducible refine Below.drew ?_) | (with_reducible refine below_drewN ?_ _) | (with_reducible refine Below.setCell ?_ ?_ _) | (with_reducible refine Below.trans ?_ (Below.mono (by with_reducible assumption) ?_)) | (with_reducible exact Below.size (by with_reducible assumption)) | go_size))⟩
  have hle := szR_le M
  have HN1 := Lib.hid (szR_fits hz)
  have hspec := fun (m q : Value) (w : World) (h1 : PM.Rows w m M) (h2 : Ints w q X) => specFormAt_any m q M X w h1 h2
  have himpl := fun (m q : Value) (w : World) (h1 : PM.Rows w m M) (h2 : Ints w q X) => implFormAt_any m q M X w h1 h2
  generalize formOut M X = o at *
  obtain ⟨O, code⟩ := o
  have HS := Lib.hid hspec
  have HI := Lib.hid himpl
  clear hspec himpl
  go_enter Try.func10, Try.ntmps10
  go_wp2_with fail
  refine (szInt64SS_any _ M _ _ (g1 _ (by (repeat' (first | (with_reducible exact Below.refl _ _) | (with_reducible assumption) | (with_reducible refine Below.alloc ?_ ?_ _) | (with_reducible refine Below.drew ?_) | (with_reducible refine below_drewN ?_ _) | (with_reducible refine Below.setCell ?_ ?_ _) | (with_reducible refine Below.trans ?_ (Below.mono (by with_reducible assumption) ?_)) | (with_reducible exact Below.size (by with_reducible assumption)) | go_size)))) (by omega) (by omega)).mono ?_; rintro e w1 ⟨rfl, rfl⟩
  generalize szR M 1048576 = left at *
  go_wp2_with fail
  refine (toRows_out _ M _ (g1 _ (by (repeat' (first | (with_reducible exact Below.refl _ _) | (with_reducible assumption) | (with_reducible refine Below.alloc ?_ ?_ _) | (with_reducible refine Below.drew ?_) | (with_reducible refine below_drewN ?_ _) | (with_reducible refine Below.setCell ?_ ?_ _) | (with_reducible refine Below.trans ?_ (Below.mono (by with_reducible assumption) ?_)) | (with_reducible exact Below.size (by with_reducible assumption)) | go_size)))) HN1.out).mono ?_; rintro e w2 ⟨gA, rfl, hr2, hb2⟩
  have R2 := Lib.hid (hr2.rows I1.out)
  clear hr2
  go_wp2_with fail
  refine (toInts_out _ X _ (g2 _ hb2) hq').mono ?_; rintro e w3 ⟨gB, rfl, hx3, hb3⟩
  have R3 := Lib.hid (R2.out.below hb3)
  have X3 := Lib.hid (hx3.own.ints I2.out)
  have hw3 : Below w.heap.size w w3 := hb2.trans (hb3.mono hb2.size)
  clear hx3 R2
  go_wp2_with fail
  refine (HS.out _ _ _ R3.out X3.out).mono ?_; rintro e w4 ⟨rfl, hb4⟩; dsimp only
  have hw4 : Below w.heap.size w w4 := hw3.trans (hb4.mono hw3.size)
  clear R3 X3 HS
  go_wp2_with fail
  refine (toRows_out _ M _ (g1 _ hw4) HN1.out).mono ?_; rintro e w5 ⟨gC, rfl, hr5, hb5⟩
  have R5 := Lib.hid (hr5.rows I1.out)
  have hw5 : Below w.heap.size w w5 := hw4.trans (hb5.mono hw4.size)
  clear hr5
  go_wp2_with fail
  refine (toInts_out _ X _ (g2 _ hw5) hq').mono ?_; rintro e w6 ⟨gD, rfl, hx6, hb6⟩
  have R6 := Lib.hid (R5.out.below hb6)
  have X6 := Lib.hid (hx6.own.ints I2.out)
  have hw6 : Below w.heap.size w w6 := hw5.trans (hb6.mono hw5.size)
  clear hx6 R5
  go_wp2_with fail
  refine (HI.out _ _ _ R6.out X6.out).mono ?_; rintro e w7 ⟨rfl, hb7⟩; dsimp only
  have R7 := Lib.hid (R6.out.below hb7)
  have X7 := Lib.hid (X6.out.below hb7)
  have hw7 : Below w.heap.size w w7 := hw6.trans (hb7.mono hw6.size)
  clear R6 X6 HI
  go_wp2_with fail
  refine (toRows_out _ M _ (g1 _ hw7) HN1.out).mono ?_; rintro e w8 ⟨gE, rfl, hr8, hb8⟩
  have R8 := Lib.hid (hr8.rows I1.out)
  have hw8 : Below w.heap.size w w8 := hw7.trans (hb8.mono hw7.size)
  clear hr8
  go_wp2_with fail
  refine (eqInt64SS_same _ _ M _ (R7.out.below hb8) R8.out).mono ?_; rintro e w9 ⟨rfl, hb9⟩
  have hw9 : Below w.heap.size w w9 := hw8.trans (hb9.mono hw8.size)
  have X9 := Lib.hid ((X7.out.below hb8).below hb9)
  clear X7 R7 R8
  go_wp2_with fail
  refine (toInts_out _ X _ (g2 _ hw9) hq').mono ?_; rintro e w10 ⟨gF, rfl, hx10, hb10⟩
  have X10 := Lib.hid (hx10.own.ints I2.out)
  have hw10 : Below w.heap.size w w10 := hw9.trans (hb10.mono hw9.size)
  clear hx10
  go_wp2_with fail
  refine (eqInt64S_same _ _ X _ (X9.out.below hb10) X10.out).mono ?_; rintro e w11 ⟨rfl, hb11⟩
  have hw11 : Below w.heap.size w w11 := hw10.trans (hb11.mono hw10.size)
  go_wp2_with fail
  go_ret
  exact ⟨rfl, hw11⟩
end Go.Proofs.Ytillndnamechdaa.PW
