/-
  Walks: unique sinks in all faces, in the model.
-/
import Derived.Test.YtlccdnpicfmeaaaCSnk
import Derived.Test.YtlccdnpicfmeaaaCAns
namespace Go.Proofs.Ytlccdnpicfmeaaa.PW
open Go.RowKit Go.Proofs.Ytlccdnpicfmeaaa
open Go.Proofs.Ytlccdnpicfmeaaa.PM

def uE (O : List Int) (v u : Nat) : Int := bits BinOp.and IntKind.i64 (bits BinOp.xor IntKind.i64 (O.getD v 0) (O.getD u 0)) (bits BinOp.xor IntKind.i64 (v : Int) (u : Int))
def uniqB (O : List Int) : Bool := decide (∀ v, v < O.length → ∀ u, u < v → uE O v u ≠ 0)
def husOut (D : Int) (O : List Int) : Bool × Int := if isCB D O = true then (uniqB O, 0) else (false, 1)
theorem husOut_ok {D : Int} {O : List Int} (h : isCB D O = true) : husOut D O = (uniqB O, 0) := by unfold husOut; rw [if_pos h]
theorem husOut_no {D : Int} {O : List Int} (h : isCB D O = false) : husOut D O = (false, 1) := by unfold husOut; rw [if_neg (by simp [h])]

set_option maxRecDepth 100000 in
set_option maxHeartbeats 4000000 in
theorem l06Unique_any (D : Int) (q : Value) (O : List Int) (w : World) (hq : Ints w q O) (h1 : 1 ≤ O.length) (h32 : O.length ≤ 32) :
    Calls Try.prog 68 #[.agg #[.int .i64 D, q]] w fun e w' => e = .returned (.bool (uniqB O)) ∧ Below w.heap.size w w' := by
  obtain ⟨b, off, cap, rfl, hb, hc⟩ := Ints.at_ hq h1
  have HIS := Lib.hid (show (∀ v, v < O.length → ∀ u, u < v → uE O v u ≠ 0) → uniqB O = true from fun h => decide_eq_true h)
  have HNE := Lib.hid (show ∀ v u, v < O.length → u < v → uE O v u = 0 → uniqB O = false from fun v u hv hu h => decide_eq_false (fun c => c v hv u hu h))
  obtain ⟨A, hA⟩ : ∃ A, A = uniqB O := ⟨_, rfl⟩
  rw [← hA] at HIS HNE ⊢
  have HC := Lib.hid hc
  obtain ⟨W0, hW0⟩ : ∃ W0, W0 = w.alloc (.cells #[.int .i64 D, .slice (some ⟨b, off, none⟩) O.length cap] 43) := ⟨_, rfl⟩
  have hb0 : Below w.heap.size w W0 := by rw [hW0]; exact (Below.refl _ _).alloc (Nat.le_refl _) _
  have hz0 : W0.heap.size = w.heap.size + 1 := by rw [hW0]; simp
  have x1 : W0.cell? ⟨w.heap.size, 1, none⟩ = some (.slice (some ⟨b, off, none⟩) O.length cap) := by rw [hW0]; simp
  have HB0 := Lib.hid hb0
  clear hc hA hq h1
  go_enter Try.func68, Try.ntmps68
  go_wp2_with fail
  rw [← hW0]
  clear hW0 hb0
  have HK := Lib.hid (fun wr (h : Below W0.heap.size W0 wr) => show wr.cell? ⟨w.heap.size, 1, none⟩ = some (.slice (some ⟨b, off, none⟩) O.length cap) from
    (h.cell (p := ⟨w.heap.size, 1, none⟩) (by show w.heap.size < _; omega)).trans x1)
  have HCC := Lib.hid (fun wr (h : Below W0.heap.size W0 wr) k (hk : k < O.length) => show wr.cell? ⟨b, off + k, none⟩ = some (.int .i64 (O.getD k 0)) from
    (h.cell (p := ⟨b, off + k, none⟩) (by show b < _; omega)).trans ((HB0.out.cell (p := ⟨b, off + k, none⟩) hb).trans (HC.out k hk)))
  clear x1 HC hz0 hb
  go_loopw [3, 4] (fun i _ wr => ∃ v : Nat, v ≤ O.length ∧ i = .int .i64 v ∧ Hid (∀ a, a < v → ∀ u, u < a → uE O a u ≠ 0) ∧ Below W0.heap.size W0 wr) (fun i _ _ => O.length - (intOf i).toNat)
  case atStart => exact ⟨0, Nat.zero_le _, by go_num, fun a ha => absurd ha (Nat.not_lt_zero _), Below.refl _ _⟩
  case round =>
    obtain ⟨v, hv, rfl, hgood, hB⟩ := hrel
    have e1 := HK.out wr hB
    by_cases hlt : v < O.length
    · have HBd := Lib.hid (fun n => below_drewN hB n)
      have HB1 := Lib.hid hB
      clear hB
      go_wp2_with fail
      go_loopw [4] (fun i wr => ∃ u : Nat, u ≤ v ∧ i = .int .i64 u ∧ Hid (∀ a, a < u → uE O v a ≠ 0) ∧ Below W0.heap.size W0 wr) (fun i _ => v - (intOf i).toNat)
      case atStart => exact ⟨0, Nat.zero_le _, by go_num, fun j hj => absurd hj (Nat.not_lt_zero _), HB1.out⟩
      case round =>
        clear e1
        obtain ⟨u, hu, rfl, hne, hB2⟩ := hrel
        have e1 := HK.out wr hB2
        by_cases hltu : u < v
        · have t1 := HCC.out wr hB2 v hlt
          have t2 := HCC.out wr hB2 u (by omega)
          have HE := HNE.out v u hlt hltu
          have HBd2 := Lib.hid (fun n => below_drewN hB2 n)
          obtain ⟨x, hx⟩ : ∃ x, O.getD v 0 = x := ⟨_, rfl⟩
          obtain ⟨y, hy⟩ : ∃ y, O.getD u 0 = y := ⟨_, rfl⟩
          have hue : uE O v u = bits BinOp.and IntKind.i64 (bits BinOp.xor IntKind.i64 x y) (bits BinOp.xor IntKind.i64 (v : Int) (u : Int)) := by unfold uE; rw [hx, hy]
          rw [hx] at t1
          rw [hy] at t2
          obtain ⟨p, hp⟩ : ∃ p, bits BinOp.xor IntKind.i64 x y = p := ⟨_, rfl⟩
          obtain ⟨r, hr⟩ : ∃ r, bits BinOp.xor IntKind.i64 (v : Int) (u : Int) = r := ⟨_, rfl⟩
          obtain ⟨z, hz⟩ : ∃ z, bits BinOp.and IntKind.i64 p r = z := ⟨_, rfl⟩
          rw [hp, hr, hz] at hue
          rw [hue] at HE
          have HUE := Lib.hid hue
          have HE := Lib.hid HE
          clear hx hy hue hB2
          by_cases hz0 : z = 0
          · have HO := Lib.hid (HE.out hz0)
            subst hz0
            go_wp2_with fail
            go_quiet (fail)
            go_wp2_with fail
            go_ret
            exact ⟨by rw [HO.out]; rfl, HB0.out.trans ((HBd2.out _).mono HB0.out.size)⟩
          · have hnext : Hid (∀ a, a < u + 1 → uE O v a ≠ 0) := fun a ha => by
              by_cases e : a = u
              · subst e; rw [HUE.out]; exact hz0
              · exact hne.out a (by omega)
            have hzb : (z == 0) = false := by simpa using hz0
            go_wp2_with fail
            go_quiet (fail)
            go_wp2_with fail
            go_roundw
            case rel => exact ⟨u + 1, by omega, by go_num, hnext, HBd2.out _⟩
            case measure => simp [intOf]; omega
        · obtain rfl : v = u := by omega
          have hnext : Hid (∀ a, a < v + 1 → ∀ u, u < a → uE O a u ≠ 0) := fun a ha => by
            by_cases e : a = v
            · subst e; exact hne.out
            · exact hgood.out a (by omega)
          have HB2 := Lib.hid hB2
          clear hB2
          go_wp2_with fail
          go_roundw
          case rel => exact ⟨v + 1, by omega, by go_num, hnext, HB2.out⟩
          case measure => simp [intOf]; omega
    · obtain rfl : v = O.length := by omega
      have HO := Lib.hid (HIS.out hgood.out)
      have HB := Lib.hid hB
      clear hB
      go_wp2_with fail
      go_ret
      exact ⟨by rw [HO.out]; rfl, HB0.out.trans (HB.out.mono HB0.out.size)⟩
theorem specHasUniqueSinks_any (D : Int) (q : Value) (O : List Int) (w : World) (hq : Ints w q O) :
    Calls Try.prog 37 #[.agg #[.int .i64 D, q]] w (OutCB w (husOut D O)) := by
  have HIS := Lib.hid (fun w' h => l06Is_any D q O w' (hq.below h))
  cases hc : isCB D O
  · rw [hc] at HIS
    rw [husOut_no hc]
    obtain ⟨a, cap, rfl, _⟩ := hq
    clear hc
    go_enter Try.func37, Try.ntmps37
    go_wp2_with fail
    refine (HIS.out _ (by (repeat' (first | (with_reducible exact Below.refl _ _) | (with_reducible assumption) | (with_reducible refine Below.alloc ?_ ?_ _) | (with_reducible refine Below.drew ?_) | (with_reducible refine below_drewN ?_ _) | (with_reducible refine Below.setCell ?_ ?_ _) | (with_reducible refine Below.trans ?_ (Below.mono (by with_reducible assumption) ?_)) | (with_reducible exact Below.size (by with_reducible assumption)) | go_size)))).mono ?_; rintro e w1 ⟨rfl, hb1⟩
    have hw1 : Below w.heap.size w w1 := by (repeat' (first | (with_reducible exact Below.refl _ _) | (with_reducible assumption) | (with_reducible refine Below.alloc ?_ ?_ _) | (with_reducible refine Below.drew ?_) | (with_reducible refine below_drewN ?_ _) | (with_reducible refine Below.setCell ?_ ?_ _) | (with_reducible refine Below.trans ?_ (Below.mono (by with_reducible assumption) ?_)) | (with_reducible exact Below.size (by with_reducible assumption)) | go_size))
    go_wp2_with fail
    go_ret2
    exact ⟨rfl, hw1⟩
  · rw [hc] at HIS
    rw [husOut_ok hc]
    obtain ⟨_, _, hl5, hl1⟩ := isCB_facts hc
    have HU := Lib.hid (fun w' h => l06Unique_any D q O w' (hq.below h) hl1 hl5)
    obtain ⟨b, off, cap, rfl, _⟩ := Ints.at_ hq hl1
    clear hc hq
    go_enter Try.func37, Try.ntmps37
    go_wp2_with fail
    refine (HIS.out _ (by (repeat' (first | (with_reducible exact Below.refl _ _) | (with_reducible assumption) | (with_reducible refine Below.alloc ?_ ?_ _) | (with_reducible refine Below.drew ?_) | (with_reducible refine below_drewN ?_ _) | (with_reducible refine Below.setCell ?_ ?_ _) | (with_reducible refine Below.trans ?_ (Below.mono (by with_reducible assumption) ?_)) | (with_reducible exact Below.size (by with_reducible assumption)) | go_size)))).mono ?_; rintro e w1 ⟨rfl, hb1⟩
    have hw1 : Below w.heap.size w w1 := by (repeat' (first | (with_reducible exact Below.refl _ _) | (with_reducible assumption) | (with_reducible refine Below.alloc ?_ ?_ _) | (with_reducible refine Below.drew ?_) | (with_reducible refine below_drewN ?_ _) | (with_reducible refine Below.setCell ?_ ?_ _) | (with_reducible refine Below.trans ?_ (Below.mono (by with_reducible assumption) ?_)) | (with_reducible exact Below.size (by with_reducible assumption)) | go_size))
    have x0 : w1.cell? ⟨w.heap.size, 0, none⟩ = some (.int .i64 D) := (hb1.cell (p := ⟨w.heap.size, 0, none⟩) (by simp)).trans (by simp)
    have x1 : w1.cell? ⟨w.heap.size, 1, none⟩ = some (.slice (some ⟨b, off, none⟩) O.length cap) := (hb1.cell (p := ⟨w.heap.size, 1, none⟩) (by simp)).trans (by simp)
    clear hb1 HIS
    go_wp2_with fail
    refine (HU.out _ hw1).mono ?_; rintro e w2 ⟨rfl, hb2⟩
    have hw2 : Below w.heap.size w w2 := hw1.trans (hb2.mono hw1.size)
    go_wp2_with fail
    go_ret2
    exact ⟨rfl, hw2⟩
end Go.Proofs.Ytlccdnpicfmeaaa.PW
