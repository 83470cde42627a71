/-
  Walks: isEquilibrium in the program (written by gieq.py).
-/
import Derived.Test.YtimcokealhnfhaaGChk
import Derived.Test.YtimcokealhnfhaaGHold
import Derived.Test.YtimcokealhnfhaaPWalkQ
namespace Go.Proofs.Ytimcokealhnfhaa.PW
open Go.RowKit Go.Proofs.Ytimcokealhnfhaa
open Go.Proofs.Ytimcokealhnfhaa.PM

theorem found_mem (X R : List Int) (i : Nat) : foundB X R i R.length = decide (X.getD i 0 = 0 ∨ (i : Int) ∈ R) := by
  unfold foundB
  congr 1
  apply propext
  constructor
  · rintro (h | ⟨t, h1, h2⟩)
    · exact .inl h
    · refine .inr ?_
      rw [← h2, show R.getD t 0 = R[t] by simp [h1]]
      exact List.getElem_mem h1
  · rintro (h | h)
    · exact .inl h
    · obtain ⟨t, h1, h2⟩ := List.mem_iff_getElem.1 h
      exact .inr ⟨t, h1, by rw [show R.getD t 0 = R[t] by simp [h1], h2]⟩
theorem holds_yes {X R : List Int} (h : ∀ i, i < X.length → foundB X R i R.length = true) : holdsB X R = true := by unfold holdsB; exact decide_eq_true h
theorem holds_no {X R : List Int} {i : Nat} (hi : i < X.length) (h : foundB X R i R.length = false) : holdsB X R = false := by
  unfold holdsB
  rw [decide_eq_false_iff_not]
  intro hall
  rw [hall i hi] at h
  cases h
theorem OrI.ints {B : Nat} {w : World} {v : Value} {xs : List Int} (h : OrI B w v xs) (h64 : ∀ x ∈ xs, I64 x) : Ints w v xs := h.rng.own.ints h64

set_option maxRecDepth 100000 in
set_option maxHeartbeats 8000000 in
theorem isEq_core (iv0 iv1 : Value) (b0 o0 c0 b1 o1 c1 n0 n1 : Nat) (S0 S1 R0 R1 : List Int) (w : World) (l0 : S0.length = n0) (l1 : S1.length = n1) (h0 : Ints w (.slice (some ⟨b0, o0, none⟩) n0 c0) S0) (h1 : Ints w (.slice (some ⟨b1, o1, none⟩) n1 c1) S1) (hn0 : 1 ≤ n0) (hn1 : 1 ≤ n1)
    (hm0 : n0 ≤ 5) (hm1 : n1 ≤ 5) (hp0 : ∀ t, t < n0 → 0 ≤ S0.getD t 0 ∧ S0.getD t 0 ≤ 1000000000) (hp1 : ∀ t, t < n1 → 0 ≤ S1.getD t 0 ∧ S1.getD t 0 ≤ 1000000000) (hr0 : ∀ x ∈ R0, I64 x) (hr1 : ∀ x ∈ R1, I64 x)
    (hb0 : ∀ w', Below w.heap.size w w' → Calls Try.prog 88 #[iv0, .slice (some ⟨b1, o1, none⟩) n1 c1] w' fun e w2 => ∃ v, e = .returned v ∧ OrI w'.heap.size w2 v R0 ∧ Below w'.heap.size w' w2)
    (hb1 : ∀ w', Below w.heap.size w w' → Calls Try.prog 88 #[iv1, .slice (some ⟨b0, o0, none⟩) n0 c0] w' fun e w2 => ∃ v, e = .returned v ∧ OrI w'.heap.size w2 v R1 ∧ Below w'.heap.size w' w2) :
    Calls Try.prog 98 #[.agg #[iv0, iv1], .agg #[.slice (some ⟨b0, o0, none⟩) n0 c0, .slice (some ⟨b1, o1, none⟩) n1 c1]] w fun e w' => e = .returned (.bool (holdsB S0 R0 && holdsB S1 R1)) ∧ Below w.heap.size w w' := by
  obtain ⟨_, _, _, hv0, hl0, hX0⟩ := ints_row h0 (by omega)
  obtain ⟨_, _, _, hv1, hl1, hX1⟩ := ints_row h1 (by omega)
  simp only [Value.slice.injEq, Option.some.injEq, Addr.mk.injEq, and_true] at hv0 hv1
  obtain ⟨⟨rfl, rfl⟩, -, rfl⟩ := hv0
  obtain ⟨⟨rfl, rfl⟩, -, rfl⟩ := hv1
  have HP0 := Lib.hid hp0
  have HP1 := Lib.hid hp1
  have HX0 := Lib.hid (fun t (ht : t < n0) => hX0 t (by omega))
  have HX1 := Lib.hid (fun t (ht : t < n1) => hX1 t (by omega))
  have HB0 := Lib.hid hb0
  have HB1 := Lib.hid hb1
  have HR0 := Lib.hid hr0
  have HR1 := Lib.hid hr1
  have hx0 := run_index2_0 (P := Try.prog) 105 104 (by kernel_rfl) (by kernel_rfl) (by kernel_rfl)
  have hx1 := run_index2_1 (P := Try.prog) 105 104 (by kernel_rfl) (by kernel_rfl) (by kernel_rfl)
  have HF0 := Lib.hid (found_mem S0 R0)
  have HF1 := Lib.hid (found_mem S1 R1)
  have HY0 := Lib.hid (show (∀ i, i < n0 → foundB S0 R0 i R0.length = true) → holdsB S0 R0 = true from fun h => holds_yes (fun i hi => h i (by omega)))
  have HY1 := Lib.hid (show (∀ i, i < n1 → foundB S1 R1 i R1.length = true) → holdsB S1 R1 = true from fun h => holds_yes (fun i hi => h i (by omega)))
  have HN0 := Lib.hid (fun i (hi : i < n0) => holds_no (X := S0) (R := R0) (i := i) (by omega))
  have HN1 := Lib.hid (fun i (hi : i < n1) => holds_no (X := S1) (R := R1) (i := i) (by omega))
  generalize holdsB S0 R0 = H0 at *
  generalize holdsB S1 R1 = H1 at *
  clear l0 l1 h0 h1 hp0 hp1 hX0 hX1 hb0 hb1 hr0 hr1
  obtain ⟨W0, hW0⟩ : ∃ W0, W0 = (w.alloc (.cells #[iv0, iv1] 105)).alloc (.cells #[.slice (some ⟨b0, o0, none⟩) n0 c0, .slice (some ⟨b1, o1, none⟩) n1 c1] 117) := ⟨_, rfl⟩
  have hw0 : Below w.heap.size w W0 := by rw [hW0]; (repeat' (first | (with_reducible exact Below.refl _ _) | (with_reducible assumption) | (with_reducible refine Below.alloc ?_ ?_ _) | (with_reducible refine Below.drew ?_) | (with_reducible refine below_drewN ?_ _) | (with_reducible refine Below.setCell ?_ ?_ _) | (with_reducible refine Below.trans ?_ (Below.mono (by with_reducible assumption) ?_)) | (with_reducible exact Below.size (by with_reducible assumption)) | go_size))
  have hs0 : W0.heap.size = w.heap.size + 2 := by rw [hW0]; simp
  have k0 : W0.cell? ⟨w.heap.size + 1, 0, none⟩ = some (.slice (some ⟨b0, o0, none⟩) n0 c0) := by rw [hW0]; simp [go_sem]
  have k1 : W0.cell? ⟨w.heap.size + 1, 1, none⟩ = some (.slice (some ⟨b1, o1, none⟩) n1 c1) := by rw [hW0]; simp [go_sem]
  have HK := Lib.hid (fun wr (h : Below W0.heap.size W0 wr) => show wr.cell? ⟨w.heap.size + 1, 0, none⟩ = some (.slice (some ⟨b0, o0, none⟩) n0 c0) ∧ wr.cell? ⟨w.heap.size + 1, 1, none⟩ = some (.slice (some ⟨b1, o1, none⟩) n1 c1) from
    ⟨(h.cell (p := ⟨w.heap.size + 1, 0, none⟩) (by show w.heap.size + 1 < _; omega)).trans k0, (h.cell (p := ⟨w.heap.size + 1, 1, none⟩) (by show w.heap.size + 1 < _; omega)).trans k1⟩)
  have HW0 := Lib.hid hW0
  have HBW := Lib.hid hw0
  clear hW0 hw0 k0 k1 hs0
  go_enter Try.func98, Try.ntmps98
  go_wp2_with fail
  try rw [← HW0.out]
  clear HW0
  go_loopw [5, 6, 7, 8, 9, 11] (fun _ _ _ _ _ c wr => ∃ i : Nat, i ≤ 2 ∧ c = .int .i64 i ∧ Below W0.heap.size W0 wr ∧ Hid ((1 ≤ i → H0 = true) ∧ (2 ≤ i → H1 = true))) (fun _ _ _ _ _ c _ => 2 - (intOf c).toNat)
  case atStart => exact ⟨0, by omega, rfl, Below.refl _ _, ⟨fun h => absurd h (by omega), fun h => absurd h (by omega)⟩⟩
  case round =>
    obtain ⟨i, hi, rfl, hB, hG⟩ := hrel
    obtain ⟨Wr, rfl⟩ : ∃ W, W = wr := ⟨_, rfl⟩
    obtain ⟨k0, k1⟩ := HK.out _ hB
    have hWr := HBW.out.trans (hB.mono HBW.out.size)
    have HBr := Lib.hid hB
    have HWr := Lib.hid hWr
    have hcase : i = 0 ∨ i = 1 ∨ i = 2 := by omega
    rcases hcase with rfl | rfl | rfl
    · have HBC := Lib.hid (HB0.out Wr hWr)
      clear hB hWr
      go_wp2_with fail
      refine HBC.out.mono ?_; rintro e w2 ⟨v, rfl, hO, hb2⟩
      have hB2 := HBr.out.trans (hb2.mono HBr.out.size)
      have hW2 := HBW.out.trans (hB2.mono HBW.out.size)
      obtain ⟨k0, k1⟩ := HK.out _ hB2
      have HCO := Lib.hid (fun x => contains_any v R0 x w2 (hO.ints HR0.out))
      have HB2 := Lib.hid hB2
      have HW2 := Lib.hid hW2
      have HL := Lib.hid (fun t (ht : t < n0) => (hW2.cell (p := ⟨b0, o0 + t, none⟩) hl0).trans (HX0.out t ht))
      clear hB2 hW2 hO hb2 HBC
      go_wp2_with fail
      go_loop [8, 9, 25] (fun _ _ c => ∃ j : Nat, j ≤ n0 ∧ c = .int .i64 j ∧ Hid (∀ t, t < j → foundB S0 R0 t R0.length = true)) (fun _ _ c => n0 - (intOf c).toNat)
      case atStart => exact ⟨0, Nat.zero_le _, rfl, fun t ht => absurd ht (Nat.not_lt_zero t)⟩
      case round =>
        obtain ⟨j, hj, rfl, hall⟩ := hrel
        by_cases hlt : j < n0
        · have d0 := HL.out j hlt
          obtain ⟨p0, p1⟩ := HP0.out j hlt
          have hf := HF0.out j
          have HNO := Lib.hid (HN0.out j hlt)
          have HNX := Lib.hid (fun (h : foundB S0 R0 j R0.length = true) => show ∀ t, t < j + 1 → foundB S0 R0 t R0.length = true from fun t ht => by
            by_cases e : t = j
            · rw [e]; exact h
            · exact hall.out t (by omega))
          generalize foundB S0 R0 j R0.length = F at *
          generalize S0.getD j 0 = x at *
          clear hall
          by_cases hx : x > 0
          · have hx0 : ¬ x = 0 := by omega
            by_cases hm : (j : Int) ∈ R0
            · have hN := Lib.hid (HNX.out (by rw [hf]; exact decide_eq_true (.inr hm)))
              have hd : decide ((j : Int) ∈ R0) = true := decide_eq_true hm
              clear hf HNO HNX hm
              go_wp2_with fail
              refine (HCO.out _).mono ?_; rintro e w3 ⟨rfl, rfl⟩
              go_wp2_with fail
              go_round
              case rel => exact ⟨j + 1, by omega, by go_num, hN⟩
              case measure => simp [intOf]; omega
            · have hO := Lib.hid (HNO.out (by rw [hf]; exact decide_eq_false (fun c => c.elim hx0 hm)))
              have hd : decide ((j : Int) ∈ R0) = false := decide_eq_false hm
              clear hf HNO HNX hm
              go_wp2_with fail
              refine (HCO.out _).mono ?_; rintro e w3 ⟨rfl, rfl⟩
              go_wp2_with fail
              go_ret
              refine ⟨?_, HW2.out⟩
              rw [hO.out]
              simp
          · have hx0 : x = 0 := by omega
            have hN := Lib.hid (HNX.out (by rw [hf]; exact decide_eq_true (.inl hx0)))
            clear hf HNO HNX
            go_wp2_with fail
            go_round
            case rel => exact ⟨j + 1, by omega, by go_num, hN⟩
            case measure => simp [intOf]; omega
        · obtain rfl : j = n0 := by omega
          have HT := Lib.hid (HY0.out hall.out)
          clear hall
          go_wp2_with fail
          go_roundw
          case rel => exact ⟨1, by omega, by go_num, HB2.out, ⟨fun _ => HT.out, fun h => absurd h (by omega)⟩⟩
          case measure => simp [intOf]
    · have HBC := Lib.hid (HB1.out Wr hWr)
      clear hB hWr
      go_wp2_with fail
      refine HBC.out.mono ?_; rintro e w2 ⟨v, rfl, hO, hb2⟩
      have hB2 := HBr.out.trans (hb2.mono HBr.out.size)
      have hW2 := HBW.out.trans (hB2.mono HBW.out.size)
      obtain ⟨k0, k1⟩ := HK.out _ hB2
      have HCO := Lib.hid (fun x => contains_any v R1 x w2 (hO.ints HR1.out))
      have HB2 := Lib.hid hB2
      have HW2 := Lib.hid hW2
      have HL := Lib.hid (fun t (ht : t < n1) => (hW2.cell (p := ⟨b1, o1 + t, none⟩) hl1).trans (HX1.out t ht))
      clear hB2 hW2 hO hb2 HBC
      go_wp2_with fail
      go_loop [8, 9, 25] (fun _ _ c => ∃ j : Nat, j ≤ n1 ∧ c = .int .i64 j ∧ Hid (∀ t, t < j → foundB S1 R1 t R1.length = true)) (fun _ _ c => n1 - (intOf c).toNat)
      case atStart => exact ⟨0, Nat.zero_le _, rfl, fun t ht => absurd ht (Nat.not_lt_zero t)⟩
      case round =>
        obtain ⟨j, hj, rfl, hall⟩ := hrel
        by_cases hlt : j < n1
        · have d0 := HL.out j hlt
          obtain ⟨p0, p1⟩ := HP1.out j hlt
          have hf := HF1.out j
          have HNO := Lib.hid (HN1.out j hlt)
          have HNX := Lib.hid (fun (h : foundB S1 R1 j R1.length = true) => show ∀ t, t < j + 1 → foundB S1 R1 t R1.length = true from fun t ht => by
            by_cases e : t = j
            · rw [e]; exact h
            · exact hall.out t (by omega))
          generalize foundB S1 R1 j R1.length = F at *
          generalize S1.getD j 0 = x at *
          clear hall
          by_cases hx : x > 0
          · have hx0 : ¬ x = 0 := by omega
            by_cases hm : (j : Int) ∈ R1
            · have hN := Lib.hid (HNX.out (by rw [hf]; exact decide_eq_true (.inr hm)))
              have hd : decide ((j : Int) ∈ R1) = true := decide_eq_true hm
              clear hf HNO HNX hm
              go_wp2_with fail
              refine (HCO.out _).mono ?_; rintro e w3 ⟨rfl, rfl⟩
              go_wp2_with fail
              go_round
              case rel => exact ⟨j + 1, by omega, by go_num, hN⟩
              case measure => simp [intOf]; omega
            · have hO := Lib.hid (HNO.out (by rw [hf]; exact decide_eq_false (fun c => c.elim hx0 hm)))
              have hd : decide ((j : Int) ∈ R1) = false := decide_eq_false hm
              clear hf HNO HNX hm
              go_wp2_with fail
              refine (HCO.out _).mono ?_; rintro e w3 ⟨rfl, rfl⟩
              go_wp2_with fail
              go_ret
              refine ⟨?_, HW2.out⟩
              rw [hO.out]
              simp
          · have hx0 : x = 0 := by omega
            have hN := Lib.hid (HNX.out (by rw [hf]; exact decide_eq_true (.inl hx0)))
            clear hf HNO HNX
            go_wp2_with fail
            go_round
            case rel => exact ⟨j + 1, by omega, by go_num, hN⟩
            case measure => simp [intOf]; omega
        · obtain rfl : j = n1 := by omega
          have HT := Lib.hid (HY1.out hall.out)
          clear hall
          go_wp2_with fail
          go_roundw
          case rel => exact ⟨2, by omega, by go_num, HB2.out, ⟨fun _ => hG.out.1 (by omega), fun _ => HT.out⟩⟩
          case measure => simp [intOf]
    · have h0 := hG.out.1 (by omega)
      have h1 := hG.out.2 (by omega)
      have HH0 := Lib.hid h0
      have HH1 := Lib.hid h1
      clear hB hWr h0 h1 hG
      go_wp2_with fail
      go_ret
      refine ⟨?_, HWr.out⟩
      rw [HH0.out, HH1.out]
      rfl
end Go.Proofs.Ytimcokealhnfhaa.PW
