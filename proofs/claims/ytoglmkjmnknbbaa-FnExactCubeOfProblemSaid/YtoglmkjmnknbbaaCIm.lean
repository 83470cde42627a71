/-
  Walks: what is an orientation of a cube, in the program.
-/
import Derived.Test.YtoglmkjmnknbbaaCIs
import Derived.Test.YtoglmkjmnknbbaaCSnk
import Derived.Test.YtoglmkjmnknbbaaCBit
import Derived.Test.YtoglmkjmnknbbaaPCol
import Derived.BigQuiet
namespace Go.Proofs.Ytoglmkjmnknbbaa.PW
open Go.RowKit Go.Proofs.Ytoglmkjmnknbbaa
open Go.Proofs.Ytoglmkjmnknbbaa.PM

set_option maxRecDepth 100000 in
set_option maxHeartbeats 4000000 in
theorem implIsCube_any (D : Int) (q : Value) (O : List Int) (w : World) (hq : Ints w q O) :
    Calls Try.prog 46 #[.agg #[.int .i64 D, q]] w (fun e w' => e = .returned (.bool (isCB D O)) ∧ Below w.heap.size w w') := by
  have hl63 := Ints.len63 hq
  have HQ := Lib.hid hq
  obtain ⟨a, cap, rfl, _, _, hI64, hx⟩ := hq
  by_cases hD1 : D < 1
  · have hno : isCB D O = false := decide_eq_false (fun h => by have := h.1; omega)
    rw [hno]
    clear hno hx hI64
    go_enter Try.func46, Try.ntmps46
    go_wp2_with fail
    go_quiet (fail)
    go_wp2_with fail
    go_ret
    exact ⟨rfl, by (repeat' (first | (with_reducible exact Below.refl _ _) | (with_reducible assumption) | (with_reducible refine Below.alloc ?_ ?_ _) | (with_reducible refine Below.drew ?_) | (with_reducible refine below_drewN ?_ _) | (with_reducible refine Below.setCell ?_ ?_ _) | (with_reducible refine Below.trans ?_ (Below.mono (by with_reducible assumption) ?_)) | (with_reducible exact Below.size (by with_reducible assumption)) | go_size))⟩
  by_cases hD5 : 5 < D
  · have hno : isCB D O = false := decide_eq_false (fun h => by have := h.1; omega)
    rw [hno]
    have hd1 : decide (D < 1) = false := decide_eq_false hD1
    clear hno hx hI64 hD1
    go_enter Try.func46, Try.ntmps46
    go_wp2_with fail
    go_quiet (fail)
    go_wp2_with fail
    go_ret
    exact ⟨rfl, by (repeat' (first | (with_reducible exact Below.refl _ _) | (with_reducible assumption) | (with_reducible refine Below.alloc ?_ ?_ _) | (with_reducible refine Below.drew ?_) | (with_reducible refine below_drewN ?_ _) | (with_reducible refine Below.setCell ?_ ?_ _) | (with_reducible refine Below.trans ?_ (Below.mono (by with_reducible assumption) ?_)) | (with_reducible exact Below.size (by with_reducible assumption)) | go_size))⟩
  have hD : 1 ≤ D ∧ D ≤ 5 := by omega
  obtain ⟨n, rfl⟩ : ∃ n : Nat, D = (n : Int) := ⟨D.toNat, by omega⟩
  have hn1 : 1 ≤ n := by omega
  have hn5 : n ≤ 5 := by omega
  have hwn := wrap_pow hn5
  have hd1 : decide ((n : Int) < 1) = false := decide_eq_false hD1
  have hd5 : decide (5 < (n : Int)) = false := decide_eq_false hD5
  clear hD1 hD5
  by_cases hL : (O.length : Int) = 2 ^ n
  case neg =>
    have hno : isCB n O = false := decide_eq_false (fun h => hL (by simpa using h.2.1))
    rw [hno]
    have hLb : ((O.length : Int) != 2 ^ n) = true := by simpa using hL
    clear hno hx hI64 hD hL
    go_enter Try.func46, Try.ntmps46
    go_wp2_with fail
    go_quiet (fail)
    go_wp2_with fail
    go_ret
    exact ⟨rfl, by (repeat' (first | (with_reducible exact Below.refl _ _) | (with_reducible assumption) | (with_reducible refine Below.alloc ?_ ?_ _) | (with_reducible refine Below.drew ?_) | (with_reducible refine below_drewN ?_ _) | (with_reducible refine Below.setCell ?_ ?_ _) | (with_reducible refine Below.trans ?_ (Below.mono (by with_reducible assumption) ?_)) | (with_reducible exact Below.size (by with_reducible assumption)) | go_size))⟩
  have hT : O.length = 2 ^ n := by
    have : ((2 ^ n : Nat) : Int) = (2 : Int) ^ n := by rw [Int.natCast_pow]; rfl
    omega
  have hpos : 0 < 2 ^ n := Nat.pow_pos (by decide)
  obtain ⟨b, off, rfl, hb, hc⟩ : ∃ b off, a = some ⟨b, off, none⟩ ∧ b < w.heap.size ∧ CellsAt w b off O := by
    rcases hx with hx | h
    · rw [hx] at hT; simp at hT; omega
    · exact h
  have htn : ((n : Int)).toNat = n := by omega
  have HIS := Lib.hid (show (∀ v, v < O.length → ((0 ≤ O.getD v 0 ∧ O.getD v 0 ≤ (O.length : Int) - 1) ∧ ∀ i, i < n → eA (O.getD v 0) i ≠ eA (O.getD (eX v i).toNat 0) i)) → isCB n O = true from fun h => decide_eq_true ⟨hD, by simpa using hL, by rw [htn]; exact h⟩)
  have HNR := Lib.hid (show ∀ v, v < O.length → ¬ (0 ≤ O.getD v 0 ∧ O.getD v 0 < (2 : Int) ^ n) → isCB n O = false from fun v hv h => decide_eq_false (fun c => h (by have := (c.2.2 v hv).1; omega)))
  have HRG := Lib.hid (show ∀ x : Int, 0 ≤ x ∧ x < (2 : Int) ^ n → 0 ≤ x ∧ x ≤ (O.length : Int) - 1 from fun x h => by omega)
  have HNE := Lib.hid (show ∀ v i, v < O.length → i < n → eA (O.getD v 0) i = eA (O.getD (eX v i).toNat 0) i → isCB n O = false from fun v i hv hi h => decide_eq_false (fun c => (c.2.2 v hv).2 i (by omega) h))
  have HX := Lib.hid (fun v i (hv : v < O.length) (hi : i < n) => eX_in hn5 (show v < 2 ^ n by omega) hi)
  have HC := Lib.hid hc
  obtain ⟨A, hA⟩ : ∃ A, A = isCB n O := ⟨_, rfl⟩
  rw [← hA] at HIS HNR HNE ⊢
  obtain ⟨W0, hW0⟩ : ∃ W0, W0 = w.alloc (.cells #[.int .i64 n, .slice (some ⟨b, off, none⟩) O.length cap] 59) := ⟨_, rfl⟩
  have hb0 : Below w.heap.size w W0 := by rw [hW0]; exact (Below.refl _ _).alloc (Nat.le_refl _) _
  have hz0 : W0.heap.size = w.heap.size + 1 := by rw [hW0]; simp
  have x0 : W0.cell? ⟨w.heap.size, 0, none⟩ = some (.int .i64 n) := by rw [hW0]; simp
  have x1 : W0.cell? ⟨w.heap.size, 1, none⟩ = some (.slice (some ⟨b, off, none⟩) O.length cap) := by rw [hW0]; simp
  have hLb : ((O.length : Int) != 2 ^ n) = false := by simpa using hL
  have HB0 := Lib.hid hb0
  have HLN := Lib.hid hL
  clear hD hc hA hI64 hT hpos hL htn
  go_enter Try.func46, Try.ntmps46
  go_wp2_with fail
  go_quiet (fail)
  go_wp2_with fail
  rw [← hW0]
  clear hW0 hb0 hwn hLb hd1 hd5
  have HK := Lib.hid (fun wr (h : Below W0.heap.size W0 wr) => show wr.cell? ⟨w.heap.size, 0, none⟩ = some (.int .i64 n) ∧ wr.cell? ⟨w.heap.size, 1, none⟩ = some (.slice (some ⟨b, off, none⟩) O.length cap) from
    ⟨(h.cell (p := ⟨w.heap.size, 0, none⟩) (by show w.heap.size < _; omega)).trans x0, (h.cell (p := ⟨w.heap.size, 1, none⟩) (by show w.heap.size < _; omega)).trans x1⟩)
  have HCC := Lib.hid (fun wr (h : Below W0.heap.size W0 wr) k (hk : k < O.length) => show wr.cell? ⟨b, off + k, none⟩ = some (.int .i64 (O.getD k 0)) from
    (h.cell (p := ⟨b, off + k, none⟩) (by show b < _; omega)).trans ((HB0.out.cell (p := ⟨b, off + k, none⟩) hb).trans (HC.out k hk)))
  have HIN := Lib.hid (fun (x : Int) (bb : Bool) (w' : World) (h : decide (0 ≤ x ∧ x < (2 : Int) ^ n) = bb) => isSet_is x n bb w' hn5 h)
  clear x0 x1 HC HQ hz0
  go_loopw [3, 4, 5, 26, 38] (fun _ _ _ i _ wr => ∃ v : Nat, v ≤ O.length ∧ i = .int .i64 v ∧ Hid (∀ a, a < v → ((0 ≤ O.getD a 0 ∧ O.getD a 0 ≤ (O.length : Int) - 1) ∧ ∀ i, i < n → eA (O.getD a 0) i ≠ eA (O.getD (eX a i).toNat 0) i)) ∧ Below W0.heap.size W0 wr) (fun _ _ _ i _ _ => O.length - (intOf i).toNat)
  case atStart => exact ⟨0, Nat.zero_le _, by go_num, fun a ha => absurd ha (Nat.not_lt_zero _), below_drewN (Below.refl _ _) _⟩
  case round =>
    obtain ⟨v, hv, rfl, hgood, hB⟩ := hrel
    obtain ⟨e0, e1⟩ := HK.out wr hB
    by_cases hlt : v < O.length
    · have t1 := HCC.out wr hB v hlt
      have HR1 := HNR.out v hlt
      obtain ⟨x, hx⟩ : ∃ x, x = O.getD v 0 := ⟨_, rfl⟩
      rw [← hx] at t1 HR1
      have HR1 := Lib.hid HR1
      have HXX := Lib.hid hx
      have HB1 := Lib.hid hB
      clear hx hB
      by_cases hin : 0 ≤ x ∧ x < (2 : Int) ^ n
      case neg =>
        have HNI := Lib.hid hin
        clear hin
        go_wp2_with fail
        refine (HIN.out x false _ (decide_eq_false HNI.out)).mono ?_; rintro e w2 ⟨rfl, rfl⟩
        go_wp2_with fail
        go_ret
        exact ⟨by rw [HR1.out HNI.out]; rfl, HB0.out.trans (HB1.out.mono HB0.out.size)⟩
      have HNI := Lib.hid hin
      clear hin
      go_wp2_with fail
      refine (HIN.out x true _ (decide_eq_true HNI.out)).mono ?_; rintro e w2 ⟨rfl, rfl⟩
      go_wp2_with fail
      go_loopw [5, 38] (fun _ i wr => ∃ l : Nat, l ≤ n ∧ i = .int .i64 l ∧ Hid (∀ j, j < l → eA (O.getD v 0) j ≠ eA (O.getD (eX v j).toNat 0) j) ∧ Below W0.heap.size W0 wr) (fun _ i _ => n - (intOf i).toNat)
      case atStart => exact ⟨0, Nat.zero_le _, by go_num, fun j hj => absurd hj (Nat.not_lt_zero _), HB1.out⟩
      case round =>
        clear e0 e1 t1
        obtain ⟨l, hl, rfl, hne, hB2⟩ := hrel
        obtain ⟨e0, e1⟩ := HK.out wr hB2
        by_cases hltl : l < n
        · obtain ⟨X, hX, hXlt⟩ := HX.out v l hlt hltl
          have hXl : X < O.length := by
            have h3 : ((2 ^ n : Nat) : Int) = (2 : Int) ^ n := by rw [Int.natCast_pow]; rfl
            have h4 := HLN.out
            omega
          have hl5 : l ≤ 5 := by omega
          have hwi := wrap_pow hl5
          have t2 := HCC.out wr hB2 X hXl
          have HE := HNE.out v l hlt hltl
          rw [hX, Int.toNat_natCast] at HE
          have HBd2 := Lib.hid (fun n => below_drewN hB2 n)
          have hX' : bits BinOp.xor IntKind.i64 (v : Int) ((2 : Int) ^ l) = (X : Int) := hX
          have HXE := Lib.hid hX
          obtain ⟨y, hy⟩ : ∃ y, y = O.getD X 0 := ⟨_, rfl⟩
          rw [← HXX.out] at HE
          rw [← hy] at t2 HE
          have hif := nbr_iff x y l (by omega)
          obtain ⟨p, hp⟩ : ∃ p, bits BinOp.xor IntKind.i64 x y = p := ⟨_, rfl⟩
          rw [hp] at hif
          obtain ⟨r, hr⟩ : ∃ r, bits BinOp.and IntKind.i64 (p / 2 ^ l) 1 = r := ⟨_, rfl⟩
          rw [hr] at hif
          have HIF := Lib.hid hif
          have HE2 := Lib.hid (show r = 0 → A = false from fun h => HE (hif.1 h))
          have HY := Lib.hid hy
          have hvi : (v : Int) ≤ 9223372036854775807 := by omega
          clear hX HE hB2 hy hif
          by_cases hpr : r = 0
          · have HO := Lib.hid (HE2.out hpr)
            subst hpr
            go_wp2_with fail
            go_quiet (fail)
            go_wp2_with fail
            go_ret
            exact ⟨by rw [HO.out]; rfl, HB0.out.trans ((HBd2.out _).mono HB0.out.size)⟩
          · have hnext : Hid (∀ j, j < l + 1 → eA (O.getD v 0) j ≠ eA (O.getD (eX v j).toNat 0) j) := fun j hj => by
              by_cases e : j = l
              · subst e
                rw [HXE.out, Int.toNat_natCast, ← HXX.out, ← HY.out]
                unfold eA
                exact fun h => hpr (HIF.out.2 h)
              · exact hne.out j (by omega)
            have hprb : (r == 0) = false := by simpa using hpr
            go_wp2_with fail
            go_quiet (fail)
            go_wp2_with fail
            go_roundw
            case rel => exact ⟨l + 1, by omega, by go_num, hnext, HBd2.out _⟩
            case measure => simp [intOf]; omega
        · obtain rfl : n = l := by omega
          have hnext : Hid (∀ a, a < v + 1 → ((0 ≤ O.getD a 0 ∧ O.getD a 0 ≤ (O.length : Int) - 1) ∧ ∀ i, i < n → eA (O.getD a 0) i ≠ eA (O.getD (eX a i).toNat 0) i)) := fun a ha => by
            by_cases e : a = v
            · subst e; exact ⟨by rw [← HXX.out]; exact HRG.out _ HNI.out, hne.out⟩
            · exact hgood.out a (by omega)
          have HB2 := Lib.hid hB2
          clear hB2
          go_wp2_with fail
          go_roundw
          case rel => exact ⟨v + 1, by omega, by go_num, hnext, HB2.out⟩
          case measure => simp [intOf]; omega
    · obtain rfl : v = O.length := by omega
      have HO := Lib.hid (HIS.out hgood.out)
      have HB := Lib.hid hB
      clear hB
      go_wp2_with fail
      go_ret
      exact ⟨by rw [HO.out]; rfl, HB0.out.trans (HB.out.mono HB0.out.size)⟩
end Go.Proofs.Ytoglmkjmnknbbaa.PW
