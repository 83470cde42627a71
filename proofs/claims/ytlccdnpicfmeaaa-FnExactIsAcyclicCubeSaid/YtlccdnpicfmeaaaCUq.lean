/-
  Walks: unique sinks in all faces, in the program.
-/
import Derived.Test.YtlccdnpicfmeaaaCOmw
import Derived.Test.YtlccdnpicfmeaaaCSW
import Derived.Test.YtlccdnpicfmeaaaCUni
import Derived.Test.YtlccdnpicfmeaaaPRoundB
namespace Go.Proofs.Ytlccdnpicfmeaaa.PW
open Go.RowKit Go.Proofs.Ytlccdnpicfmeaaa Go.Proofs.Ytlccdnpicfmeaaa.SW
open Go.Proofs.Ytlccdnpicfmeaaa.PM

theorem isInFace_is (u v d : Nat) (b : Bool) (w : World) (hu : u < 2 ^ 62) (hv : v < 2 ^ 62) (h : decide (andn (u ^^^ v) d = 0) = b) :
    Calls Try.prog 78 #[.int .i64 u, .int .i64 v, .int .i64 d] w fun e w' => e = .returned (.bool b) ∧ w' = w := by
  have h1 := xb_nat u v hu hv
  have h2 := nb_nat (u ^^^ v) d (Nat.xor_lt_two_pow hu hv)
  have h3 : (((andn (u ^^^ v) d : Nat) : Int) == 0) = b := by
    rw [← h]
    by_cases e : andn (u ^^^ v) d = 0 <;> simp [e]
  generalize u ^^^ v = x at *
  generalize andn x d = y at *
  clear h hu hv
  go_enter Try.func78, Try.ntmps78
  go_wp2_with fail
  go_ret
  exact ⟨rfl, rfl⟩

set_option maxRecDepth 100000 in
set_option maxHeartbeats 2000000 in
theorem countSinks_any (F : Nat → Int) (f : Nat → Nat) (n T v D : Nat) (w : World) (hn : n ≤ 5) (hT : T = 2 ^ n) (hv : v < T) (hD : D < T) (hf : ∀ j, j < T → F j = ((f j : Nat) : Int) ∧ f j < T) :
    Calls Try.prog 92 #[arrV F, .int .i64 n, .int .i64 v, .int .i64 D] w fun e w' => e = .returned (.int .i64 (cn (pB f v D) T)) ∧ Below w.heap.size w w' := by
  have hT32 : T ≤ 32 := by rw [hT]; exact pow_le_32 hn
  have hwn := wrap_pow hn
  have hTi : (2 : Int) ^ n = (T : Int) := by rw [hT, Int.natCast_pow]; rfl
  have HF := Lib.hid hf
  have HIN := Lib.hid (fun (u : Nat) (hu : u < T) (b : Bool) (h : decide (andn (u ^^^ v) D = 0) = b) (w' : World) => isInFace_is u v D b w' (by omega) (by omega) h)
  have HAB := Lib.hid (fun (u : Nat) (hu : u < T) => ab_nat (f u) D (by have := (hf u hu).2; omega) (by omega))
  have HCL := Lib.hid (cn_le (pB f v D))
  have HPB := Lib.hid (show ∀ u, pB f v D u = decide (andn (u ^^^ v) D = 0 ∧ f u &&& D = 0) from fun u => rfl)
  have HCN := Lib.hid (show ∀ k, cn (pB f v D) (k + 1) = cn (pB f v D) k + (if pB f v D k then 1 else 0) from fun k => rfl)
  have HC0 : Hid (cn (pB f v D) 0 = 0) := rfl
  generalize hP : pB f v D = P at *
  have HA0 := Lib.hid (show Arr (w.alloc (.cells (arrC F) 76)) w.heap.size F from heap_alloc_new w _)
  unfold arrV
  clear hf hT hP
  go_enter Try.func92, Try.ntmps92
  go_wp2_with fail
  obtain ⟨W0, hW0⟩ : ∃ W0, W0 = w.alloc (.cells (arrC F) 76) := ⟨_, rfl⟩
  have hb0 : Below w.heap.size w W0 := by rw [hW0]; exact (Below.refl _ _).alloc (Nat.le_refl _) _
  have hz0 : w.heap.size < W0.heap.size := by rw [hW0]; simp
  rw [← hW0] at HA0 ⊢
  have HB0 := Lib.hid hb0
  clear hW0 hb0 hwn hTi
  go_loopw [9, 10, 13] (fun c _ i wr => ∃ k : Nat, k ≤ T ∧ i = .int .i64 k ∧ c = .int .i64 (cn P k) ∧ Below W0.heap.size W0 wr) (fun _ _ i _ => T - (intOf i).toNat)
  case atStart => exact ⟨0, Nat.zero_le _, by go_num, by rw [HC0.out]; rfl, Below.refl _ _⟩
  case round =>
    obtain ⟨k, hk, rfl, rfl, hB⟩ := hrel
    have hcl := HCL.out k
    by_cases hlt : k < T
    · have hA := HA0.out.below hB hz0
      have t1 := hA.cell k (by omega)
      obtain ⟨e1, e2⟩ := HF.out k hlt
      rw [e1] at t1
      have hab := HAB.out k hlt
      have HI := Lib.hid (HIN.out k hlt)
      have HP1 := Lib.hid (HPB.out k)
      have HC1 := Lib.hid (HCN.out k)
      have HB := Lib.hid hB
      have hk63 : (k : Int) ≤ 9223372036854775807 := by omega
      generalize hc : cn P k = c at *
      have hc2 : (c : Int) + 1 ≤ 9223372036854775807 := by omega
      clear hA hB e1 e2 hc
      by_cases h1 : andn (k ^^^ v) D = 0
      · have HI1 := Lib.hid (HI.out true (decide_eq_true h1))
        by_cases h2 : f k &&& D = 0
        · have hnx : Hid (cn P (k + 1) = c + 1) := by show _ = _; rw [HC1.out, HP1.out, if_pos (decide_eq_true ⟨h1, h2⟩)]
          rw [h2] at hab
          clear h1 h2
          go_wp2_with fail
          refine (HI1.out _).mono ?_; rintro e w2 ⟨rfl, rfl⟩
          go_wp2_with fail
          go_roundw
          case rel => exact ⟨k + 1, by omega, by go_num, by rw [hnx.out]; go_num, HB.out⟩
          case measure => simp [intOf]; omega
        · have hnx : Hid (cn P (k + 1) = c) := by show _ = _; rw [HC1.out, HP1.out, if_neg (by simp [h2])]; rfl
          have hne : (((f k &&& D : Nat) : Int) == 0) = false := by simpa using h2
          clear h1 h2
          go_wp2_with fail
          refine (HI1.out _).mono ?_; rintro e w2 ⟨rfl, rfl⟩
          go_wp2_with fail
          go_roundw
          case rel => exact ⟨k + 1, by omega, by go_num, by rw [hnx.out], HB.out⟩
          case measure => simp [intOf]; omega
      · have HI1 := Lib.hid (HI.out false (decide_eq_false h1))
        have hnx : Hid (cn P (k + 1) = c) := by show _ = _; rw [HC1.out, HP1.out, if_neg (by simp [h1])]; rfl
        clear h1 hab
        go_wp2_with fail
        refine (HI1.out _).mono ?_; rintro e w2 ⟨rfl, rfl⟩
        go_wp2_with fail
        go_roundw
        case rel => exact ⟨k + 1, by omega, by go_num, by rw [hnx.out], HB.out⟩
        case measure => simp [intOf]; omega
    · obtain rfl : k = T := by omega
      have HB := Lib.hid hB
      clear hB
      go_wp2_with fail
      go_ret
      exact ⟨rfl, HB0.out.trans (HB.out.mono HB0.out.size)⟩

/-- The outmaps as naturals. -/
def fO (O : List Int) (j : Nat) : Nat := (O.getD j 0).toNat
theorem uE_nat {O : List Int} {n v u : Nat} (hc : isCB n O = true) (hn : n ≤ 5) (hv : v < 2 ^ n) (hu : u < 2 ^ n) : uE O v u = (((fO O v ^^^ fO O u) &&& (v ^^^ u) : Nat) : Int) ∧ fO O v < 2 ^ n ∧ O.getD v 0 = ((fO O v : Nat) : Int) := by
  have h32 := pow_le_32 hn
  obtain ⟨a1, a2⟩ := isCB_at hc v hv
  obtain ⟨b1, b2⟩ := isCB_at hc u hu
  have hp : ((2 ^ n : Nat) : Int) = (2 : Int) ^ n := by rw [Int.natCast_pow]; rfl
  have e1 : O.getD v 0 = ((fO O v : Nat) : Int) := by unfold fO; omega
  have e2 : O.getD u 0 = ((fO O u : Nat) : Int) := by unfold fO; omega
  have l1 : fO O v < 2 ^ n := by omega
  have l2 : fO O u < 2 ^ n := by omega
  have hx := Nat.xor_lt_two_pow l1 l2
  have hy := Nat.xor_lt_two_pow hv hu
  refine ⟨?_, l1, e1⟩
  unfold uE
  rw [e1, e2, xb_nat _ _ (by omega) (by omega), xb_nat _ _ (by omega) (by omega), ab_nat _ _ (by omega) (by omega)]
theorem uniq_iff {O : List Int} {n : Nat} (hc : isCB n O = true) (hn : n ≤ 5) : (∀ v, v < 2 ^ n → ∀ D, D < 2 ^ n → cn (pB (fO O) v D) (2 ^ n) = 1) ↔ uniqB O = true := by
  have hl := (isCB_len hc).1
  rw [show (∀ v, v < 2 ^ n → ∀ D, D < 2 ^ n → cn (pB (fO O) v D) (2 ^ n) = 1) ↔ All n (fO O) from ⟨fun h v D hv hD => (uq_iff _ _ _ _).2 (h v hv D hD), fun h v hv D hD => (uq_iff _ _ _ _).1 (h v D hv hD)⟩, szabo_welzl]
  unfold uniqB
  rw [decide_eq_true_iff]
  constructor
  · intro h v hv u hu
    have := h v u (by omega) (by omega) (by omega)
    rw [(uE_nat hc hn (by omega) (by omega)).1]
    omega
  · intro h v u hv hu hne
    rcases Nat.lt_or_ge u v with hlt | hge
    · have := h v (by omega) u hlt
      rw [(uE_nat hc hn hv hu).1] at this
      omega
    · have := h u (by omega) v (by omega)
      rw [(uE_nat hc hn hu hv).1, Nat.xor_comm (fO O u), Nat.xor_comm u] at this
      omega

set_option maxRecDepth 100000 in
set_option maxHeartbeats 4000000 in
theorem hasUniqueSinks_any (O : List Int) (n : Nat) (w : World) (hc : isCB n O = true) (hn1 : 1 ≤ n) (hn : n ≤ 5) :
    Calls Try.prog 70 #[arrV fun j => O.getD j 0, .int .i64 n] w fun e w' => e = .returned (.bool (uniqB O)) ∧ Below w.heap.size w w' := by
  have hwn := wrap_pow hn
  have HIS := Lib.hid (show (∀ v, v < 2 ^ n → ∀ D, D < 2 ^ n → cn (pB (fO O) v D) (2 ^ n) = 1) → uniqB O = true from fun h => (uniq_iff hc hn).1 h)
  have HNE := Lib.hid (show ∀ v D, v < 2 ^ n → D < 2 ^ n → cn (pB (fO O) v D) (2 ^ n) ≠ 1 → uniqB O = false from fun v D hv hD h => by
    cases hu : uniqB O
    · rfl
    · exact absurd ((uniq_iff hc hn).2 hu v hv D hD) h)
  have hTi : (2 : Int) ^ n = ((2 ^ n : Nat) : Int) := by rw [Int.natCast_pow]; rfl
  have hT32 := pow_le_32 hn
  have HCS := Lib.hid (fun (v D : Nat) (hv : v < 2 ^ n) (hD : D < 2 ^ n) (w' : World) => countSinks_any (fun j => O.getD j 0) (fO O) n (2 ^ n) v D w' hn rfl hv hD (fun j hj => ⟨(uE_nat hc hn hj hj).2.2, (uE_nat hc hn hj hj).2.1⟩))
  obtain ⟨F, hF⟩ : ∃ F : Nat → Int, F = fun j => O.getD j 0 := ⟨_, rfl⟩
  obtain ⟨C, hC⟩ : ∃ C : Nat → Nat → Nat, ∀ v D, C v D = cn (pB (fO O) v D) (2 ^ n) := ⟨_, fun _ _ => rfl⟩
  have HC32 := Lib.hid (show ∀ v D, C v D ≤ 2 ^ n from fun v D => by rw [hC]; exact cn_le _ _)
  simp only [← hC] at HIS HNE HCS
  rw [← hF] at HCS ⊢
  generalize uniqB O = A at *
  generalize hT : 2 ^ n = T at *
  have HA0 := Lib.hid (show Arr (w.alloc (.cells (arrC F) 76)) w.heap.size F from heap_alloc_new w _)
  have HCS : Hid (∀ (v D : Nat), v < T → D < T → ∀ (w' : World), Calls Try.prog 92 #[.agg (arrC F), .int .i64 n, .int .i64 v, .int .i64 D] w' fun e w'' => e = .returned (.int .i64 (C v D)) ∧ Below w'.heap.size w' w'') := HCS
  unfold arrV
  clear hc hF hC hT
  go_enter Try.func70, Try.ntmps70
  go_wp2_with fail
  obtain ⟨W0, hW0⟩ : ∃ W0, W0 = w.alloc (.cells (arrC F) 76) := ⟨_, rfl⟩
  have hb0 : Below w.heap.size w W0 := by rw [hW0]; exact (Below.refl _ _).alloc (Nat.le_refl _) _
  have hz0 : w.heap.size < W0.heap.size := by rw [hW0]; simp
  rw [← hW0] at HA0 ⊢
  have HB0 := Lib.hid hb0
  clear hW0 hb0
  go_loopw [5, 6, 9, 14] (fun _ _ i _ wr => ∃ v : Nat, v ≤ T ∧ i = .int .i64 v ∧ Hid (∀ a, a < v → ∀ D, D < T → C a D = 1) ∧ Below W0.heap.size W0 wr) (fun _ _ i _ _ => T - (intOf i).toNat)
  case atStart => exact ⟨0, Nat.zero_le _, by go_num, fun a ha => absurd ha (Nat.not_lt_zero _), Below.refl _ _⟩
  case round =>
    obtain ⟨v, hv, rfl, hgood, hB⟩ := hrel
    by_cases hlt : v < T
    · have HB1 := Lib.hid hB
      clear hB
      go_wp2_with fail
      go_loopw [6, 14] (fun _ i wr => ∃ d : Nat, d ≤ T ∧ i = .int .i64 d ∧ Hid (∀ a, a < d → C v a = 1) ∧ Below W0.heap.size W0 wr) (fun _ i _ => T - (intOf i).toNat)
      case atStart => exact ⟨0, Nat.zero_le _, by go_num, fun j hj => absurd hj (Nat.not_lt_zero _), HB1.out⟩
      case round =>
        obtain ⟨d, hd, rfl, hne, hB2⟩ := hrel
        by_cases hltd : d < T
        · have HA := Lib.hid (HA0.out.below hB2 hz0)
          have HB2 := Lib.hid hB2
          have HK := Lib.hid (HCS.out v d hlt hltd)
          have HE := Lib.hid (HNE.out v d hlt hltd)
          have hc32 := HC32.out v d
          obtain ⟨c, hcc⟩ : ∃ c, C v d = c := ⟨_, rfl⟩
          rw [hcc] at HK HE hc32
          have HCC := Lib.hid hcc
          clear hB2 hcc
          go_wp2_with (refine wpList_load_row rfl 76 _ rfl w.heap.size rfl _ _ _ _ HA.out Try.underlying76 rfl (by rw [arrC_size]; exact info_arr) ?_)
          refine (HK.out _).mono ?_; rintro e w2 ⟨rfl, hb2⟩
          have HB3 := Lib.hid (HB2.out.trans (hb2.mono HB2.out.size))
          clear hb2
          by_cases h1 : c = 1
          · subst h1
            go_wp2_with fail
            go_roundw
            case rel => exact ⟨d + 1, by omega, by go_num, fun a ha => by
                          by_cases e : a = d
                          · subst e; exact HCC.out
                          · exact hne.out a (by omega), HB3.out⟩
            case measure => simp [intOf]; omega
          · have HO := Lib.hid (HE.out h1)
            have h1b : ((c : Int) != 1) = true := by simp; omega
            clear h1
            go_wp2_with fail
            go_ret
            exact ⟨by rw [HO.out]; rfl, HB0.out.trans (HB3.out.mono HB0.out.size)⟩
        · obtain rfl : d = T := by omega
          have HB2 := Lib.hid hB2
          clear hB2
          go_wp2_with fail
          go_roundw
          case rel => exact ⟨v + 1, by omega, by go_num, fun a ha => by
                        by_cases e : a = v
                        · subst e; exact hne.out
                        · exact hgood.out a (by omega), HB2.out⟩
          case measure => simp [intOf]; omega
    · obtain rfl : v = T := by omega
      have HO := Lib.hid (HIS.out hgood.out)
      have HB := Lib.hid hB
      clear hB
      go_wp2_with fail
      go_ret
      exact ⟨by rw [HO.out]; rfl, HB0.out.trans (HB.out.mono HB0.out.size)⟩

set_option maxRecDepth 100000 in
set_option maxHeartbeats 4000000 in
theorem implHasUniqueSinks_any (D : Int) (q : Value) (O : List Int) (w : World) (hq : Ints w q O) :
    Calls Try.prog 38 #[.agg #[.int .i64 D, q]] w (OutCB w (husOut D O)) := by
  have HIS := Lib.hid (fun w' h => implIsCube_any D q O w' (hq.below h))
  have hmx : Try.prog.follows .mixedOrders = true := by kernel_rfl
  cases hc : isCB D O
  · rw [hc] at HIS
    rw [husOut_no hc]
    obtain ⟨a, cap, rfl, _⟩ := hq
    clear hc
    go_enter Try.func38, Try.ntmps38
    go_wp2_with fail
    refine (HIS.out _ (by (repeat' (first | (with_reducible exact Below.refl _ _) | (with_reducible assumption) | (with_reducible refine Below.alloc ?_ ?_ _) | (with_reducible refine Below.drew ?_) | (with_reducible refine below_drewN ?_ _) | (with_reducible refine Below.setCell ?_ ?_ _) | (with_reducible refine Below.trans ?_ (Below.mono (by with_reducible assumption) ?_)) | (with_reducible exact Below.size (by with_reducible assumption)) | go_size)))).mono ?_; rintro e w1 ⟨rfl, hb1⟩
    have hw1 : Below w.heap.size w w1 := by (repeat' (first | (with_reducible exact Below.refl _ _) | (with_reducible assumption) | (with_reducible refine Below.alloc ?_ ?_ _) | (with_reducible refine Below.drew ?_) | (with_reducible refine below_drewN ?_ _) | (with_reducible refine Below.setCell ?_ ?_ _) | (with_reducible refine Below.trans ?_ (Below.mono (by with_reducible assumption) ?_)) | (with_reducible exact Below.size (by with_reducible assumption)) | go_size))
    go_wp2_with fail
    go_ret2
    exact ⟨rfl, hw1⟩
  · rw [hc] at HIS
    rw [husOut_ok hc]
    obtain ⟨hd1, hd5, hl5, hl1⟩ := isCB_facts hc
    obtain ⟨n, rfl⟩ : ∃ n : Nat, D = (n : Int) := ⟨D.toNat, by omega⟩
    obtain ⟨b, off, cap, rfl, hb, hcell⟩ := Ints.at_ hq hl1
    have HHU := Lib.hid (fun w' => hasUniqueSinks_any O n w' hc (by omega) (by omega))
    have HOM := Lib.hid (fun w' (h : Below w.heap.size w w') => outmapOf_any n b off O.length cap O w' ⟨rfl, hl1, hl5, by have := h.size; omega, fun k hk => (h.cell (p := ⟨b, off + k, none⟩) hb).trans (hcell k hk)⟩)
    obtain ⟨F, hF⟩ : ∃ F : Nat → Int, F = fun j => O.getD j 0 := ⟨_, rfl⟩
    rw [← hF] at HHU HOM
    generalize uniqB O = A at *
    clear hc hq hcell hF
    go_enter Try.func38, Try.ntmps38
    go_wp2_with fail
    refine (HIS.out _ (by (repeat' (first | (with_reducible exact Below.refl _ _) | (with_reducible assumption) | (with_reducible refine Below.alloc ?_ ?_ _) | (with_reducible refine Below.drew ?_) | (with_reducible refine below_drewN ?_ _) | (with_reducible refine Below.setCell ?_ ?_ _) | (with_reducible refine Below.trans ?_ (Below.mono (by with_reducible assumption) ?_)) | (with_reducible exact Below.size (by with_reducible assumption)) | go_size)))).mono ?_; rintro e w1 ⟨rfl, hb1⟩
    have hw1 : Below w.heap.size w w1 := by (repeat' (first | (with_reducible exact Below.refl _ _) | (with_reducible assumption) | (with_reducible refine Below.alloc ?_ ?_ _) | (with_reducible refine Below.drew ?_) | (with_reducible refine below_drewN ?_ _) | (with_reducible refine Below.setCell ?_ ?_ _) | (with_reducible refine Below.trans ?_ (Below.mono (by with_reducible assumption) ?_)) | (with_reducible exact Below.size (by with_reducible assumption)) | go_size))
    have x0 : w1.cell? ⟨w.heap.size, 0, none⟩ = some (.int .i64 n) := (hb1.cell (p := ⟨w.heap.size, 0, none⟩) (by simp)).trans (by simp)
    have x1 : w1.cell? ⟨w.heap.size, 1, none⟩ = some (.slice (some ⟨b, off, none⟩) O.length cap) := (hb1.cell (p := ⟨w.heap.size, 1, none⟩) (by simp)).trans (by simp)
    have hl : w.heap.size < w1.heap.size := by have := hb1.size; simp at this; omega
    clear hb1 HIS
    go_wp2_with fail
    rename_i K0 hK0
    refine (wpIn_wide (n := 8)).1 ?_
    refine PR.wpIn_region_inv hmx (by kernel_rfl) (fun listed ac w' =>
        ∃ (b0 b1 b2 b3 b4 b5 b6 : Bool), ((b1 = true → b0 = true) ∧ (b3 = true → b2 = true) ∧ (b4 = true → b1 = true ∧ b3 = true) ∧ (b5 = true → b4 = true)) ∧ listed = #[b0, b1, b2, b3, b4, b5, b6] ∧
          ac = { tmps := #[.agg #[.int .i64 n, .slice (some ⟨b, off, none⟩) O.length cap], .pointer (some ⟨w.heap.size, 0, none⟩), cond b5 (.bool A) (.bool false), .int .i64 0, .agg #[.int .i64 n, .slice (some ⟨b, off, none⟩) O.length cap], .bool true, .bool false, cond b0 (.agg #[.int .i64 n, .slice (some ⟨b, off, none⟩) O.length cap]) undef, cond b1 (arrV F) undef, cond b2 (.pointer (some ⟨w.heap.size, 0, none⟩)) undef, cond b3 (.int .i64 n) undef, cond b4 (.bool A) undef], defers := [] } ∧ Below w1.heap.size w1 w') ?_ ?_ ?_ ?_
    · rintro listed ac w' ⟨b0, b1, b2, b3, b4, b5, b6, _, rfl, _⟩
      rfl
    · rintro listed ac w' ⟨b0, b1, b2, b3, b4, b5, b6, _, rfl, rfl, hR⟩ hall
      have h0 := hall 0 (by simp)
      have h1 := hall 1 (by simp)
      have h2 := hall 2 (by simp)
      have h3 := hall 3 (by simp)
      have h4 := hall 4 (by simp)
      have h5 := hall 5 (by simp)
      have h6 := hall 6 (by simp)
      simp at h0 h1 h2 h3 h4 h5 h6
      subst h0 h1 h2 h3 h4 h5 h6
      clear hall
      refine hK0 _ _ ?_
      simp only [cond_true]
      have HB := Lib.hid (hw1.trans (hR.mono hw1.size))
      clear hR x0 x1
      go_wp2_with fail
      go_ret2
      exact ⟨rfl, HB.out⟩
    · exact ⟨false, false, false, false, false, false, false, by simp, rfl, rfl, (Below.refl _ _).drew⟩
    · rintro listed ac w' i oi ⟨b0, b1, b2, b3, b4, b5, b6, ⟨e1, e3, e4, e5⟩, rfl, rfl, hR⟩ ho hun hdep
      have hi : i < 7 := by simpa using (Array.getElem?_eq_some_iff.1 ho).1
      obtain rfl | rfl | rfl | rfl | rfl | rfl | rfl : i = 0 ∨ i = 1 ∨ i = 2 ∨ i = 3 ∨ i = 4 ∨ i = 5 ∨ i = 6 := by omega
      · -- 0
        simp only [List.getElem?_toArray, List.getElem?_cons_zero, Option.some.injEq] at ho
        subst ho
        have hbi : b0 = false := by simpa using hun
        subst hbi
        obtain rfl : b1 = false := Bool.eq_false_iff.2 (fun h => Bool.noConfusion (e1 h))
        obtain rfl : b4 = false := Bool.eq_false_iff.2 (fun h => Bool.noConfusion (e4 h).1)
        obtain rfl : b5 = false := Bool.eq_false_iff.2 (fun h => Bool.noConfusion (e5 h))
        refine wpOpIn_step rfl (fun K hK => ?_)
        clear hun hdep hi
        have k0 := (hR.cell (p := ⟨w.heap.size, 0, none⟩) hl).trans x0
        have k1 := (hR.cell (p := ⟨w.heap.size, 1, none⟩) hl).trans x1
        go_simp
        refine hK _ _ ⟨true, false, b2, b3, false, false, b6, ⟨fun h => Bool.noConfusion h, e3, fun h => Bool.noConfusion h, fun h => Bool.noConfusion h⟩, rfl, rfl, hR⟩
      · -- 1
        simp only [List.getElem?_toArray, List.getElem?_cons_succ, List.getElem?_cons_zero, Option.some.injEq] at ho
        subst ho
        have hbi : b1 = false := by simpa using hun
        subst hbi
        have hd0 : b0 = true := by have := hdep ⟨0, .data⟩ (by simp) rfl; simpa using this
        subst hd0
        obtain rfl : b4 = false := Bool.eq_false_iff.2 (fun h => Bool.noConfusion (e4 h).1)
        obtain rfl : b5 = false := Bool.eq_false_iff.2 (fun h => Bool.noConfusion (e5 h))
        refine wpOpIn_step rfl (fun K hK => ?_)
        clear hun hdep hi
        go_simp
        refine ⟨trivial, (callsIn_wide.2 (HOM.out w' (hw1.trans (hR.mono hw1.size)))).mono ?_⟩
        rintro e w'' ⟨rfl, hb⟩
        refine hK _ _ ⟨true, true, b2, b3, false, false, b6, ⟨fun _ => rfl, e3, fun h => Bool.noConfusion h, fun h => Bool.noConfusion h⟩, rfl, rfl, hR.trans (hb.mono hR.size)⟩
      · -- 2
        simp only [List.getElem?_toArray, List.getElem?_cons_succ, List.getElem?_cons_zero, Option.some.injEq] at ho
        subst ho
        have hbi : b2 = false := by simpa using hun
        subst hbi
        obtain rfl : b3 = false := Bool.eq_false_iff.2 (fun h => Bool.noConfusion (e3 h))
        obtain rfl : b4 = false := Bool.eq_false_iff.2 (fun h => Bool.noConfusion (e4 h).2)
        obtain rfl : b5 = false := Bool.eq_false_iff.2 (fun h => Bool.noConfusion (e5 h))
        refine wpOpIn_step rfl (fun K hK => ?_)
        clear hun hdep hi
        go_simp
        refine hK _ _ ⟨b0, b1, true, false, false, false, b6, ⟨e1, fun h => Bool.noConfusion h, fun h => Bool.noConfusion h, fun h => Bool.noConfusion h⟩, rfl, rfl, hR⟩
      · -- 3
        simp only [List.getElem?_toArray, List.getElem?_cons_succ, List.getElem?_cons_zero, Option.some.injEq] at ho
        subst ho
        have hbi : b3 = false := by simpa using hun
        subst hbi
        have hd2 : b2 = true := by have := hdep ⟨2, .data⟩ (by simp) rfl; simpa using this
        subst hd2
        obtain rfl : b4 = false := Bool.eq_false_iff.2 (fun h => Bool.noConfusion (e4 h).2)
        obtain rfl : b5 = false := Bool.eq_false_iff.2 (fun h => Bool.noConfusion (e5 h))
        refine wpOpIn_step rfl (fun K hK => ?_)
        clear hun hdep hi
        have k0 := (hR.cell (p := ⟨w.heap.size, 0, none⟩) hl).trans x0
        go_simp
        refine hK _ _ ⟨b0, b1, true, true, false, false, b6, ⟨e1, fun _ => rfl, fun h => Bool.noConfusion h, fun h => Bool.noConfusion h⟩, rfl, rfl, hR⟩
      · -- 4
        simp only [List.getElem?_toArray, List.getElem?_cons_succ, List.getElem?_cons_zero, Option.some.injEq] at ho
        subst ho
        have hbi : b4 = false := by simpa using hun
        subst hbi
        have hd1 : b1 = true := by have := hdep ⟨1, .data⟩ (by simp) rfl; simpa using this
        have hd3 : b3 = true := by have := hdep ⟨3, .data⟩ (by simp) rfl; simpa using this
        have hd2 : b2 = true := (e3 hd3)
        have hd0 : b0 = true := (e1 hd1)
        subst hd0 hd1 hd2 hd3
        obtain rfl : b5 = false := Bool.eq_false_iff.2 (fun h => Bool.noConfusion (e5 h))
        refine wpOpIn_step rfl (fun K hK => ?_)
        clear hun hdep hi
        go_simp
        refine ⟨trivial, (callsIn_wide.2 (HHU.out w')).mono ?_⟩
        rintro e w'' ⟨rfl, hb⟩
        refine hK _ _ ⟨true, true, true, true, true, false, b6, ⟨fun _ => rfl, fun _ => rfl, fun _ => ⟨rfl, rfl⟩, fun h => Bool.noConfusion h⟩, rfl, rfl, hR.trans (hb.mono hR.size)⟩
      · -- 5
        simp only [List.getElem?_toArray, List.getElem?_cons_succ, List.getElem?_cons_zero, Option.some.injEq] at ho
        subst ho
        have hbi : b5 = false := by simpa using hun
        subst hbi
        have hd4 : b4 = true := by have := hdep ⟨4, .data⟩ (by simp) rfl; simpa using this
        have hd3 : b3 = true := (e4 hd4).2
        have hd2 : b2 = true := (e3 hd3)
        have hd1 : b1 = true := (e4 hd4).1
        have hd0 : b0 = true := (e1 hd1)
        subst hd0 hd1 hd2 hd3 hd4
        refine wpOpIn_step rfl (fun K hK => ?_)
        clear hun hdep hi
        go_simp
        refine hK _ _ ⟨true, true, true, true, true, true, b6, ⟨fun _ => rfl, fun _ => rfl, fun _ => ⟨rfl, rfl⟩, fun _ => rfl⟩, rfl, rfl, hR⟩
      · -- 6
        simp only [List.getElem?_toArray, List.getElem?_cons_succ, List.getElem?_cons_zero, Option.some.injEq] at ho
        subst ho
        have hbi : b6 = false := by simpa using hun
        subst hbi
        refine wpOpIn_step rfl (fun K hK => ?_)
        clear hun hdep hi
        go_simp
        refine hK _ _ ⟨b0, b1, b2, b3, b4, b5, true, ⟨e1, e3, e4, e5⟩, rfl, rfl, hR⟩
end Go.Proofs.Ytlccdnpicfmeaaa.PW
