/-
  Walks: the code of an orientation with some vertices, in the model.
-/
import Derived.Test.YtlccdnpicfmeaaaCSnk
import Derived.Test.YtlccdnpicfmeaaaCAns
namespace Go.Proofs.Ytlccdnpicfmeaaa.PW
open Go.RowKit Go.Proofs.Ytlccdnpicfmeaaa
open Go.Proofs.Ytlccdnpicfmeaaa.PM

def inC (O : List Int) (x : Int) : Prop := 0 ≤ x ∧ x ≤ (O.length : Int) - 1
instance (O : List Int) (x : Int) : Decidable (inC O x) := by unfold inC; infer_instance
/-- A list of numbers as it lies in memory (nothing is asked of the numbers). -/
def Cel (w : World) (v : Value) (L : List Int) : Prop := ∃ b off c, v = .slice (some ⟨b, off, none⟩) L.length c ∧ b < w.heap.size ∧ ∀ k, k < L.length → w.cell? ⟨b, off + k, none⟩ = some (.int .i64 (L.getD k 0))
theorem cel_one (w : World) (x : Int) (t : TypeId) (g : Nat) (hg : g = w.heap.size) : Cel (w.alloc (.cells #[.int .i64 x] t)) (.slice (some ⟨g, 0, none⟩) 1 1) [x] :=
  ⟨_, 0, 1, rfl, by subst hg; simp, fun k hk => by subst hg; obtain rfl : k = 0 := (by simpa using hk); rw [World.cell?_alloc_new]; rfl⟩
theorem cel_two (w : World) (x y : Int) (t : TypeId) (g : Nat) (hg : g = w.heap.size) : Cel (w.alloc (.cells #[.int .i64 x, .int .i64 y] t)) (.slice (some ⟨g, 0, none⟩) 2 2) [x, y] :=
  ⟨_, 0, 2, rfl, by subst hg; simp, fun k hk => by
    subst hg
    have hk' : k < 2 := by simpa using hk
    obtain rfl | rfl : k = 0 ∨ k = 1 := by omega
    · rw [World.cell?_alloc_new]; rfl
    · rw [World.cell?_alloc_new]; rfl⟩
def cdOut (D : Int) (O L : List Int) : Int := if isCB D O = true then (if ∀ k, k < L.length → inC O (L.getD k 0) then 0 else 2) else 1

set_option maxRecDepth 100000 in
set_option maxHeartbeats 4000000 in
theorem l06Code_any (D : Int) (q v : Value) (O L : List Int) (w : World) (hq : Ints w q O) (hv : Cel w v L) (hL2 : L.length ≤ 2) :
    Calls Try.prog 73 #[.agg #[.int .i64 D, q], v] w fun e w' => e = .returned (.int .i64 (cdOut D O L)) ∧ Below w.heap.size w w' := by
  have HIS := Lib.hid (fun w' h => l06Is_any D q O w' (hq.below h))
  obtain ⟨lb, lo, lc, rfl, hlb, hlc⟩ := hv
  cases hc : isCB D O
  · rw [hc] at HIS
    rw [show cdOut D O L = 1 by unfold cdOut; rw [if_neg (by simp [hc])]]
    obtain ⟨a, cap, rfl, _⟩ := hq
    clear hc hlc
    go_enter Try.func73, Try.ntmps73
    go_wp2_with fail
    refine (HIS.out _ (by (repeat' (first | (with_reducible exact Below.refl _ _) | (with_reducible assumption) | (with_reducible refine Below.alloc ?_ ?_ _) | (with_reducible refine Below.drew ?_) | (with_reducible refine below_drewN ?_ _) | (with_reducible refine Below.setCell ?_ ?_ _) | (with_reducible refine Below.trans ?_ (Below.mono (by with_reducible assumption) ?_)) | (with_reducible exact Below.size (by with_reducible assumption)) | go_size)))).mono ?_; rintro e w1 ⟨rfl, hb1⟩
    have hw1 : Below w.heap.size w w1 := by (repeat' (first | (with_reducible exact Below.refl _ _) | (with_reducible assumption) | (with_reducible refine Below.alloc ?_ ?_ _) | (with_reducible refine Below.drew ?_) | (with_reducible refine below_drewN ?_ _) | (with_reducible refine Below.setCell ?_ ?_ _) | (with_reducible refine Below.trans ?_ (Below.mono (by with_reducible assumption) ?_)) | (with_reducible exact Below.size (by with_reducible assumption)) | go_size))
    go_wp2_with fail
    go_ret
    exact ⟨rfl, hw1⟩
  · rw [hc] at HIS
    obtain ⟨_, _, hl5, hl1⟩ := isCB_facts hc
    have HOK := Lib.hid (show (∀ k, k < L.length → inC O (L.getD k 0)) → cdOut D O L = 0 from fun h => by unfold cdOut; rw [if_pos hc, if_pos h])
    have HNO := Lib.hid (show ∀ k, k < L.length → ¬ inC O (L.getD k 0) → cdOut D O L = 2 from fun k hk h => by unfold cdOut; rw [if_pos hc, if_neg (fun h' => h (h' k hk))])
    generalize cdOut D O L = A at *
    obtain ⟨b, off, cap, rfl, _⟩ := Ints.at_ hq hl1
    have HLC := Lib.hid hlc
    clear hc hq hlc
    go_enter Try.func73, Try.ntmps73
    go_wp2_with fail
    refine (HIS.out _ (by (repeat' (first | (with_reducible exact Below.refl _ _) | (with_reducible assumption) | (with_reducible refine Below.alloc ?_ ?_ _) | (with_reducible refine Below.drew ?_) | (with_reducible refine below_drewN ?_ _) | (with_reducible refine Below.setCell ?_ ?_ _) | (with_reducible refine Below.trans ?_ (Below.mono (by with_reducible assumption) ?_)) | (with_reducible exact Below.size (by with_reducible assumption)) | go_size)))).mono ?_; rintro e w1 ⟨rfl, hb1⟩
    have hw1 : Below w.heap.size w w1 := by (repeat' (first | (with_reducible exact Below.refl _ _) | (with_reducible assumption) | (with_reducible refine Below.alloc ?_ ?_ _) | (with_reducible refine Below.drew ?_) | (with_reducible refine below_drewN ?_ _) | (with_reducible refine Below.setCell ?_ ?_ _) | (with_reducible refine Below.trans ?_ (Below.mono (by with_reducible assumption) ?_)) | (with_reducible exact Below.size (by with_reducible assumption)) | go_size))
    have x1 : w1.cell? ⟨w.heap.size, 1, none⟩ = some (.slice (some ⟨b, off, none⟩) O.length cap) := (hb1.cell (p := ⟨w.heap.size, 1, none⟩) (by simp)).trans (by simp)
    have hl : w.heap.size < w1.heap.size := by have := hb1.size; simp at this; omega
    have HIN := Lib.hid (fun (x lo hi : Int) (bb : Bool) (w' : World) (h : decide (lo ≤ x ∧ x ≤ hi) = bb) => (l01In_is x lo hi bb w' h).mono (R' := fun e w2 => e = .returned (.bool bb) ∧ w2 = w') (fun _ _ h => ⟨h.1, h.2.symm⟩))
    clear hb1 HIS
    go_wp2_with fail
    go_loopw [5] (fun i wr => ∃ k : Nat, k ≤ L.length ∧ i = .int .i64 k ∧ Hid (∀ a, a < k → inC O (L.getD a 0)) ∧ Below w1.heap.size w1 wr) (fun i _ => L.length - (intOf i).toNat)
    case atStart => exact ⟨0, Nat.zero_le _, by go_num, fun a ha => absurd ha (Nat.not_lt_zero _), Below.refl _ _⟩
    case round =>
      obtain ⟨k, hk, rfl, hgood, hB⟩ := hrel
      have y1 := (hB.cell (p := ⟨w.heap.size, 1, none⟩) hl).trans x1
      by_cases hlt : k < L.length
      · have t1 := ((hw1.trans (hB.mono hw1.size)).cell (p := ⟨lb, lo + k, none⟩) hlb).trans (HLC.out k hlt)
        have HBd := Lib.hid (fun n => below_drewN hB n)
        have HN1 := HNO.out k hlt
        obtain ⟨x, hx⟩ : ∃ x, L.getD k 0 = x := ⟨_, rfl⟩
        rw [hx] at t1 HN1
        have HN1 := Lib.hid HN1
        have HX := Lib.hid hx
        clear hx hB
        by_cases hin : inC O x
        · have HI := Lib.hid hin
          clear hin
          go_wp2_with fail
          go_quiet ((go_at_call 55; exact Calls.quiet_of_same (HIN.out x 0 ((O.length : Int) - 1) true _ (decide_eq_true HI.out))))
          go_wp2_with fail
          go_roundw
          case rel => exact ⟨k + 1, by omega, by go_num, fun a ha => by
                        by_cases e : a = k
                        · subst e; rw [HX.out]; exact HI.out
                        · exact hgood.out a (by omega), HBd.out _⟩
          case measure => simp [intOf]; omega
        · have HI := Lib.hid hin
          clear hin
          go_wp2_with fail
          go_quiet ((go_at_call 55; exact Calls.quiet_of_same (HIN.out x 0 ((O.length : Int) - 1) false _ (decide_eq_false HI.out))))
          go_wp2_with fail
          go_ret
          exact ⟨by rw [HN1.out HI.out]; rfl, hw1.trans ((HBd.out _).mono hw1.size)⟩
      · obtain rfl : k = L.length := by omega
        have HO := Lib.hid (HOK.out hgood.out)
        have HB := Lib.hid hB
        clear hB
        go_wp2_with fail
        go_ret
        exact ⟨by rw [HO.out]; rfl, hw1.trans (HB.out.mono hw1.size)⟩
end Go.Proofs.Ytlccdnpicfmeaaa.PW
