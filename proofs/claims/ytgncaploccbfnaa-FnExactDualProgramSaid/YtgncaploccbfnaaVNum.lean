/-
  Lists of fractions as they lie in memory, and common denominators: plain mathematics.
  Walks: fractions written with their least common denominator, in the model.
  Maps from fractions to numbers, in memory of the call's own.
  Walks: fractions written with their least common denominator, in the program: a map.
  Walks: numbers out of a map in the order of a list; sums of numbers.
-/
import Derived.Test.YtgncaploccbfnaaFracWalkD
import Derived.Test.YtgncaploccbfnaaPCore
import Derived.Test.YtgncaploccbfnaaPCol
import Derived.BigQuiet
import Derived.Maps.OwnOps
import Derived.Maps.Views
import Derived.DeepKeys4
import Derived.MapViews
import Derived.OpenShut
import Derived.ChangeOld
import Derived.Lib.SmallJoins
import Derived.Test.YtgncaploccbfnaaPRoundB
import Derived.Maps.OwnSet
namespace Go.Proofs.Ytgncaploccbfnaa.PW
open Go.RowKit Go.Proofs.Ytgncaploccbfnaa
open Go.Proofs.Ytgncaploccbfnaa.PM

/-- v is a slice of the fractions xs. -/
def Frs (w : World) (v : Value) (xs : List (Int × Int)) : Prop :=
  ∃ (a : Option Addr) (cap : Nat), v = .slice a xs.length cap ∧ xs.length ≤ cap ∧ cap ≤ maxLen ∧ (∀ x ∈ xs, I64 x.1 ∧ I64 x.2) ∧
    (xs = [] ∨ ∃ b off, a = some ⟨b, off, none⟩ ∧ b < w.heap.size ∧ ∀ i, i < xs.length → w.cell? ⟨b, off + i * 2, none⟩ = some (.int .i64 (xs.getD i (0, 0)).1) ∧ w.cell? ⟨b, off + i * 2 + 1, none⟩ = some (.int .i64 (xs.getD i (0, 0)).2))
theorem Frs.below {w w' : World} {v : Value} {xs : List (Int × Int)} (h : Frs w v xs) (hb : Below w.heap.size w w') : Frs w' v xs := by
  obtain ⟨a, cap, h1, h2, h3, h4, h5⟩ := h
  refine ⟨a, cap, h1, h2, h3, h4, ?_⟩
  rcases h5 with h5 | ⟨b, off, e, hlt, hc⟩
  · exact .inl h5
  · exact .inr ⟨b, off, e, Nat.lt_of_lt_of_le hlt hb.size, fun i hi => ⟨(hb.cell (p := ⟨b, off + i * 2, none⟩) hlt).trans (hc i hi).1, (hb.cell (p := ⟨b, off + i * 2 + 1, none⟩) hlt).trans (hc i hi).2⟩⟩
theorem Frs.at_ {w : World} {v : Value} {xs : List (Int × Int)} (h : Frs w v xs) (hn : 1 ≤ xs.length) : ∃ b off c, v = .slice (some ⟨b, off, none⟩) xs.length c ∧ b < w.heap.size ∧
    ∀ wr, Below w.heap.size w wr → ∀ i, i < xs.length → wr.cell? ⟨b, off + i * 2, none⟩ = some (.int .i64 (xs.getD i (0, 0)).1) ∧ wr.cell? ⟨b, off + i * 2 + 1, none⟩ = some (.int .i64 (xs.getD i (0, 0)).2) := by
  obtain ⟨a, c, rfl, h1, h2, _, hx⟩ := h
  rcases hx with hx | ⟨b, off, rfl, hb, hc⟩
  · rw [hx] at hn; simp at hn
  · exact ⟨b, off, c, rfl, hb, fun wr hw i hi => ⟨(hw.cell (p := ⟨b, off + i * 2, none⟩) hb).trans (hc i hi).1, (hw.cell (p := ⟨b, off + i * 2 + 1, none⟩) hb).trans (hc i hi).2⟩⟩
theorem Frs.i64 {w : World} {v : Value} {xs : List (Int × Int)} (h : Frs w v xs) : ∀ x ∈ xs, I64 x.1 ∧ I64 x.2 := by
  obtain ⟨_, _, _, _, _, h4, _⟩ := h
  exact h4
theorem getD_mem2 {xs : List (Int × Int)} {i : Nat} (h : i < xs.length) : xs.getD i (0, 0) ∈ xs := by
  have e : xs.getD i (0, 0) = xs[i] := by simp [h]
  rw [e]; exact List.getElem_mem h

/-- The least common denominator, as long as it stays within the limit. -/
def comD : Int → List (Int × Int) → Option Int
  | d, [] => some d
  | d, x :: r => if 1000000000 < d.tdiv (FM.gcdI d x.2) * x.2 then none else comD (d.tdiv (FM.gcdI d x.2) * x.2) r
/-- The numerator of a fraction that is written with a denominator. -/
def numI (d : Int) (x : Int × Int) : Int := x.1 * d.tdiv x.2
def numsOk (d : Int) (xs : List (Int × Int)) : Bool := xs.all fun x => decide (-1000000000000 ≤ numI d x ∧ numI d x ≤ 1000000000000)
def comOut (xs : List (Int × Int)) : Option Int := match comD 1 xs with
  | none => none
  | some d => if numsOk d xs = true then some d else none
def fracs (xs : List (Int × Int)) : Prop := ∀ x ∈ xs, FM.isF x.1 x.2 = true
theorem comD_drop {xs : List (Int × Int)} {k : Nat} (h : k < xs.length) (d : Int) : comD d (xs.drop k) = if 1000000000 < d.tdiv (FM.gcdI d (xs.getD k (0, 0)).2) * (xs.getD k (0, 0)).2 then none else comD (d.tdiv (FM.gcdI d (xs.getD k (0, 0)).2) * (xs.getD k (0, 0)).2) (xs.drop (k + 1)) := by
  have e : xs.drop k = xs[k] :: xs.drop (k + 1) := List.drop_eq_getElem_cons h
  have e2 : xs.getD k (0, 0) = xs[k] := by simp [h]
  rw [e, e2]
  rfl
theorem com_step {d y : Int} (hd : 1 ≤ d ∧ d ≤ 1000000000) (hy : 1 ≤ y ∧ y ≤ 1000000000) : 0 < FM.gcdI d y ∧ FM.gcdI d y ≤ 1000000000 ∧ (1 ≤ d.tdiv (FM.gcdI d y) ∧ d.tdiv (FM.gcdI d y) ≤ 1000000000) ∧ 1 ≤ d.tdiv (FM.gcdI d y) * y ∧ d.tdiv (FM.gcdI d y) * y ≤ 1000000000000000000 := by
  have h1 := FM.gcdI_pos d y (by omega)
  have h2 := FM.gcdI_le d y (by omega)
  have h3 := FM.gcdI_dvd_left d y
  obtain ⟨q, hq⟩ := h3
  have h4 : d.tdiv (FM.gcdI d y) = q := by
    have h := Int.mul_tdiv_cancel_left q (show FM.gcdI d y ≠ 0 by omega)
    rwa [← hq] at h
  rw [h4]
  have hq1 : 1 ≤ q := by
    rcases Int.lt_or_le q 1 with h | h
    · have : FM.gcdI d y * q ≤ 0 := Int.mul_nonpos_of_nonneg_of_nonpos (by omega) (by omega)
      omega
    · exact h
  have hq2 : q ≤ d := by
    have : 1 * q ≤ FM.gcdI d y * q := Int.mul_le_mul_of_nonneg_right (by omega) (by omega)
    omega
  have h5 : 1 * 1 ≤ q * y := Int.mul_le_mul hq1 hy.1 (by omega) (by omega)
  have h6 : q * y ≤ 1000000000 * 1000000000 := Int.mul_le_mul (by omega) hy.2 (by omega) (by omega)
  exact ⟨h1, by omega, ⟨hq1, by omega⟩, by omega, by omega⟩
theorem comD_bd : ∀ (xs : List (Int × Int)) (d e : Int), (1 ≤ d ∧ d ≤ 1000000000) → fracs xs → comD d xs = some e → 1 ≤ e ∧ e ≤ 1000000000
  | [], d, e, hd, _, h => by
    obtain rfl : d = e := by simpa [comD] using h
    exact hd
  | x :: r, d, e, hd, hf, h => by
    unfold comD at h
    split at h
    · cases h
    · rename_i hn
      have hx := FM.isF_yes (hf x (by simp))
      have := com_step hd (y := x.2) ⟨hx.2.2.1, hx.2.2.2.1⟩
      exact comD_bd r _ e ⟨this.2.2.2.1, by omega⟩ (fun y hy => hf y (by simp [hy])) h
theorem numI_bd {d : Int} {x : Int × Int} (hd : 1 ≤ d ∧ d ≤ 1000000000) (hx : FM.isF x.1 x.2 = true) : (0 ≤ d.tdiv x.2 ∧ d.tdiv x.2 ≤ 1000000000) ∧ -1000000000000000000 ≤ numI d x ∧ numI d x ≤ 1000000000000000000 := by
  obtain ⟨h1, h2, h3, h4, _⟩ := FM.isF_yes hx
  have hq : d.tdiv x.2 = d / x.2 := Int.tdiv_eq_ediv_of_nonneg (by omega)
  have hq0 : 0 ≤ d / x.2 := Int.ediv_nonneg (by omega) (by omega)
  have hq1 : d / x.2 ≤ d := Int.ediv_le_self _ (by omega)
  have := FM.mul_bd h1 h2 (show -1000000000 ≤ d.tdiv x.2 by omega) (show d.tdiv x.2 ≤ 1000000000 by omega)
  unfold numI
  omega
theorem numsOk_iff (d : Int) (xs : List (Int × Int)) : numsOk d xs = true ↔ ∀ i, i < xs.length → -1000000000000 ≤ numI d (xs.getD i (0, 0)) ∧ numI d (xs.getD i (0, 0)) ≤ 1000000000000 := by
  unfold numsOk
  rw [List.all_eq_true]
  constructor
  · intro h i hi
    exact of_decide_eq_true (h _ (getD_mem2 hi))
  · intro h x hx
    obtain ⟨j, hj, rfl⟩ := List.mem_iff_getElem.1 hx
    have := h j hj
    rw [show xs.getD j (0, 0) = xs[j] by simp [hj]] at this
    exact decide_eq_true this
end Go.Proofs.Ytgncaploccbfnaa.PW
namespace Go.Proofs.Ytgncaploccbfnaa.PW
open Go.RowKit Go.Proofs.Ytgncaploccbfnaa
open Go.Proofs.Ytgncaploccbfnaa.PM

theorem row_snoc {α : Type} (f : α → Int) (xs : List α) (d : α) (k : Nat) (h : k < xs.length) : (xs.take k).map f ++ [f (xs.getD k d)] = (xs.take (k + 1)).map f := by
  rw [List.take_succ_eq_append_getElem h, List.map_append]
  simp [h]
theorem FreshI.shape2 {B n : Nat} {w : World} {v : Value} {xs : List Int} (h : FreshI B w v xs) (hn : xs.length = n) : ∃ g cap, v = .slice (some ⟨g, 0, none⟩) n cap ∧ B ≤ g ∧ g < w.heap.size := by
  obtain ⟨g, cap, h1, h2, h3, _⟩ := h
  exact ⟨g, cap, by rw [h1, hn], h2, h3⟩
/-- What l01Common leaves. -/
def ComS (w : World) (xs : List (Int × Int)) (e : Ending) (w' : World) : Prop := match comOut xs with
  | none => e = .returned (.tuple #[.slice none 0 0, .int .i64 0, .bool false]) ∧ Below w.heap.size w w'
  | some d => ∃ g cap, e = .returned (.tuple #[.slice (some ⟨g, 0, none⟩) xs.length cap, .int .i64 d, .bool true]) ∧ FreshI w.heap.size w' (.slice (some ⟨g, 0, none⟩) xs.length cap) (xs.map (numI d)) ∧ Below w.heap.size w w'

set_option maxRecDepth 100000 in
set_option maxHeartbeats 2000000 in
theorem l01Common_any (v : Value) (xs : List (Int × Int)) (w : World) (hv : Frs w v xs) (hF : fracs xs) (hn1 : 1 ≤ xs.length) (hn : xs.length ≤ 1000) :
    Calls Try.prog 80 #[v] w (ComS w xs) := by
  obtain ⟨b, off, c, rfl, hb, hcell⟩ := hv.at_ hn1
  obtain ⟨j0, hj, hyy0, hyy1, hyy2⟩ := info_parts info_int
  have HC := Lib.hid hcell
  have HFr := Lib.hid (fun k (hk : k < xs.length) => FM.isF_yes (hF _ (getD_mem2 hk)))
  have HFI := Lib.hid (fun k (hk : k < xs.length) => hF _ (getD_mem2 hk))
  have HBD := Lib.hid (fun e => comD_bd xs 1 e (by omega) hF)
  have HNO := Lib.hid (show comD 1 xs = none → ∀ w', Below w.heap.size w w' → ComS w xs (.returned (.tuple #[.slice none 0 0, .int .i64 0, .bool false])) w' from fun h w' hw => by
    unfold ComS comOut; rw [h]; exact ⟨(rfl : _ = _), hw⟩)
  have HNO2 := Lib.hid (show ∀ d, comD 1 xs = some d → numsOk d xs = false → ∀ w', Below w.heap.size w w' → ComS w xs (.returned (.tuple #[.slice none 0 0, .int .i64 0, .bool false])) w' from fun d h h2 w' hw => by
    unfold ComS comOut; rw [h]; simp only [h2]; exact ⟨by simp, hw⟩)
  have HYES := Lib.hid (show ∀ d, comD 1 xs = some d → numsOk d xs = true → ∀ g cap w', FreshI w.heap.size w' (.slice (some ⟨g, 0, none⟩) xs.length cap) (xs.map (numI d)) → Below w.heap.size w w' → ComS w xs (.returned (.tuple #[.slice (some ⟨g, 0, none⟩) xs.length cap, .int .i64 d, .bool true])) w' from fun d h h2 g cap w' hf hw => by
    unfold ComS comOut; rw [h]; simp only [h2]; exact ⟨g, cap, rfl, hf, hw⟩)
  have HIF := Lib.hid (fun d => numsOk_iff d xs)
  generalize ComS w xs = POST at *
  clear hv hcell hF
  go_enter Try.func80, Try.ntmps80
  go_wp2_with fail
  go_loopw [5, 6] (fun d i wr => ∃ (k : Nat) (y : Int), k ≤ xs.length ∧ i = .int .i64 k ∧ d = .int .i64 y ∧ (1 ≤ y ∧ y ≤ 1000000000) ∧ Hid (comD 1 xs = comD y (xs.drop k)) ∧ Below w.heap.size w wr) (fun _ i _ => xs.length - (intOf i).toNat)
  case atStart => exact ⟨0, 1, Nat.zero_le _, rfl, rfl, by omega, rfl, Below.refl _ _⟩
  case round =>
    obtain ⟨k, y, hk, rfl, rfl, hy, hcom, hB⟩ := hrel
    by_cases hlt : k < xs.length
    · obtain ⟨c1, c2⟩ := HC.out wr hB k hlt
      have hst := comD_drop hlt y
      obtain ⟨f1, f2, f3, f4, _⟩ := HFr.out k hlt
      obtain ⟨z, hz⟩ : ∃ z, z = (xs.getD k (0, 0)).2 := ⟨_, rfl⟩
      rw [← hz] at c2 hst f3 f4
      obtain ⟨g1, g2, ⟨g3, g4⟩, g5, g6⟩ := com_step hy (y := z) ⟨f3, f4⟩
      have hgc := fun w' => FW.l01Gcd_any y z w' (by omega) (by omega) (by omega) (by omega)
      obtain ⟨G, hG⟩ : ∃ G, G = FM.gcdI y z := ⟨_, rfl⟩
      rw [← hG] at hst g1 g2 g3 g4 g5 g6
      simp only [← hG] at hgc
      have HG := Lib.hid hgc
      have hG0 : ¬ G = 0 := by omega
      obtain ⟨q, hq⟩ : ∃ q, q = y.tdiv G := ⟨_, rfl⟩
      rw [← hq] at hst g3 g4 g5 g6
      obtain ⟨p, hp⟩ : ∃ p, p = q * z := ⟨_, rfl⟩
      rw [← hp] at hst g5 g6
      have hw1 : wrap64 q = q := IntWalk.wrap64_in _ (by omega)
      have hw2 : wrap64 p = p := IntWalk.wrap64_in _ (by omega)
      have hgb : Hid (0 < G ∧ 1 ≤ q) := ⟨g1, g3⟩
      have HBd := Lib.hid (fun n => below_drewN hB n)
      have HST := Lib.hid hst
      have HP5 := Lib.hid (And.intro g5 g6)
      have hq' := hq.symm
      have hp' := hp.symm
      clear hst f1 f2 f3 f4 g1 g2 g3 g4 g5 g6 hgc hG hq hp hz c1 hB hgb
      by_cases hlim : 1000000000 < p
      · have HO := Lib.hid (HNO.out (hcom.out.trans (HST.out.trans (if_pos hlim))))
        go_wp2_with fail
        go_quiet ((go_at_call 124; exact Calls.quiet_of_same ((HG.out _).mono fun e w' ⟨he, hw⟩ => ⟨he, hw.symm⟩)))
        go_wp2_with fail
        exact HO.out _ (HBd.out _)
      · have hnx : Hid (comD 1 xs = comD p (xs.drop (k + 1))) := hcom.out.trans (HST.out.trans (if_neg hlim))
        go_wp2_with fail
        go_quiet ((go_at_call 124; exact Calls.quiet_of_same ((HG.out _).mono fun e w' ⟨he, hw⟩ => ⟨he, hw.symm⟩)))
        go_wp2_with fail
        go_roundw
        case rel => exact ⟨k + 1, p, by omega, by go_num, (by first | rfl | rw [hw2]), ⟨HP5.out.1, by omega⟩, hnx, HBd.out _⟩
        case measure => simp [intOf]; omega
    · obtain rfl : k = xs.length := by omega
      have hd : comD 1 xs = some y := by rw [hcom.out, List.drop_length]; rfl
      have HD := Lib.hid hd
      obtain ⟨W1, rfl⟩ : ∃ W1, W1 = wr := ⟨_, rfl⟩
      have HB1 := Lib.hid hB
      have hzr := hB.size
      have HF0 := Lib.hid (freshI_nil W1)
      clear hd hcom hB
      go_wp2_with fail
      go_loopw [7, 8, 9] (fun v i _ wi => ∃ (k : Nat), k ≤ xs.length ∧ i = .int .i64 k ∧ FreshI W1.heap.size wi v ((xs.take k).map (numI y)) ∧ Hid (∀ j, j < k → -1000000000000 ≤ numI y (xs.getD j (0, 0)) ∧ numI y (xs.getD j (0, 0)) ≤ 1000000000000) ∧ Below W1.heap.size W1 wi) (fun _ i _ _ => xs.length - (intOf i).toNat)
      case atStart => exact ⟨0, Nat.zero_le _, rfl, HF0.out, fun j hj => absurd hj (Nat.not_lt_zero _), (Below.refl _ _).alloc (Nat.le_refl _) _⟩
      case round =>
        obtain ⟨k, hk, rfl, hI, hgood, hB⟩ := hrel
        have hzi := hB.size
        by_cases hlt : k < xs.length
        · obtain ⟨c1, c2⟩ := HC.out wr (HB1.out.trans (hB.mono hzr)) k hlt
          obtain ⟨f1, f2, f3, f4, _⟩ := HFr.out k hlt
          obtain ⟨⟨q1, q2⟩, n1, n2⟩ := numI_bd hy (HFI.out k hlt)
          have hnum : numI y (xs.getD k (0, 0)) = (xs.getD k (0, 0)).1 * y.tdiv (xs.getD k (0, 0)).2 := rfl
          have hsn := row_snoc (numI y) xs (0, 0) k hlt
          have hbad : Hid (¬ (-1000000000000 ≤ numI y (xs.getD k (0, 0)) ∧ numI y (xs.getD k (0, 0)) ≤ 1000000000000) → numsOk y xs = false) := fun h => by
            rw [Bool.eq_false_iff]
            intro c
            exact h ((HIF.out y).1 c k hlt)
          have hnx : Hid (-1000000000000 ≤ numI y (xs.getD k (0, 0)) ∧ numI y (xs.getD k (0, 0)) ≤ 1000000000000 → ∀ j, j < k + 1 → -1000000000000 ≤ numI y (xs.getD j (0, 0)) ∧ numI y (xs.getD j (0, 0)) ≤ 1000000000000) := fun h j hj => by
            by_cases e : j = k
            · subst e; exact h
            · exact hgood.out j (by omega)
          obtain ⟨N, hN⟩ : ∃ N, N = numI y (xs.getD k (0, 0)) := ⟨_, rfl⟩
          obtain ⟨x, hx⟩ : ∃ x, x = (xs.getD k (0, 0)).1 := ⟨_, rfl⟩
          obtain ⟨z, hz⟩ : ∃ z, z = (xs.getD k (0, 0)).2 := ⟨_, rfl⟩
          rw [← hN] at hnum n1 n2 hsn hbad hnx
          rw [← hx] at c1 f1 f2 hnum
          rw [← hz] at c2 f3 f4 hnum q1 q2
          have hz0 : ¬ z = 0 := by omega
          obtain ⟨Y, hY⟩ : ∃ Y, Y = y.tdiv z := ⟨_, rfl⟩
          rw [← hY] at hnum q1 q2
          have hl : ((xs.take k).map (numI y)).length = k := by simp; omega
          have how := hI.owns
          rw [hl] at how
          have HSN := Lib.hid hsn
          have hw1 : wrap64 Y = Y := IntWalk.wrap64_in _ (by omega)
          have hw2 : wrap64 N = N := IntWalk.wrap64_in _ (by omega)
          have HBd := Lib.hid (fun n => below_drewN hB n)
          have HID := Lib.hid (fun n => hI.below (below_drewN (Below.refl _ _) n))
          have HOW := Lib.hid (fun n => show (wr.drewN n).ownsRow 0 2 1 u7 k (((xs.take k).map (numI y)).map (Value.int .i64)) from by
            have := (hI.below (below_drewN (Below.refl _ _) n)).owns
            rwa [hl] at this)
          have HL := Lib.hid hl
          have hnum' := hnum.symm
          have hY' := hY.symm
          clear hnum hY hN hx hz f1 f2 f3 f4 q1 q2 hsn hl how hI hB
          by_cases hin : -1000000000000 ≤ N ∧ N ≤ 1000000000000
          case neg =>
            have HO := Lib.hid (HNO2.out y HD.out (hbad.out hin))
            have HDD := Lib.hid (show decide (-1000000000000 ≤ N ∧ N ≤ 1000000000000) = false from decide_eq_false hin)
            clear hin hnx hbad
            go_wp2_with fail
            go_quiet (fail)
            go_wp2_with fail
            refine (l01In_is _ _ _ _ _ HDD.out).mono ?_; rintro e w' ⟨rfl, rfl⟩
            go_wp2_with fail
            exact HO.out _ (HB1.out.trans ((HBd.out _).mono hzr))
          have HX := Lib.hid (hnx.out hin)
          have HDD := Lib.hid (show decide (-1000000000000 ≤ N ∧ N ≤ 1000000000000) = true from decide_eq_true hin)
          clear hin hnx hbad
          go_wp2_with fail
          go_quiet (fail)
          go_wp2_with fail
          refine (l01In_is _ _ _ _ _ HDD.out).mono ?_; rintro e w' ⟨rfl, rfl⟩
          go_wp2_with (at_builtin; refine wpList_append_lies _ rfl _ _ 23 rfl 0 2 j0 (.int .i64 0) 1 8 Try.underlying23 hj hyy0 hyy1 hyy2 rfl (by decide) u7 k _ rfl ((HOW.out _).alloc _) _ 1 _ [.int .i64 N] rfl rfl (cell_one_new _ _ _) (by simp [Value.oneCell']) (by decide) (by unfold maxLen; omega) (by omega) (Nat.zero_le _) _ rfl ?_; intro g cap w3 hown hgrow hat hgl)
          have hpu := (HID.out nq).push (by simpa using hzi) HL.out.symm hown hat hgl
          have hgr := (HID.out nq).grow (HBd.out nq) (by simpa using hzi) hgrow
          rw [HSN.out] at hpu
          have HPU := Lib.hid hpu
          have HGR := Lib.hid hgr
          clear hpu hgr hown hgrow hat hgl
          go_wp2_with fail
          go_roundw
          case rel => exact ⟨k + 1, by omega, by go_num, HPU.out, HX, HGR.out⟩
          case measure => simp [intOf]; omega
        · obtain rfl : k = xs.length := by omega
          have hok : Hid (numsOk y xs = true) := (HIF.out y).2 hgood.out
          rw [List.take_length] at hI
          obtain ⟨g, cap, rfl, hg1, hg2⟩ := FreshI.shape2 (n := xs.length) hI (by simp)
          have HY := Lib.hid (HYES.out y HD.out hok.out g cap wr (hI.mono hzr) (HB1.out.trans (hB.mono hzr)))
          clear hI hB hgood
          go_wp2_with fail
          exact HY.out
end Go.Proofs.Ytgncaploccbfnaa.PW
namespace Go.Proofs.Ytgncaploccbfnaa.PW
open Go.ChangeShapes Go.WideShapes Go.ChangeAt Go.RowKit Go.Joins Go.Deep Go.Maps Go.Proofs.Ytgncaploccbfnaa
open Go.Proofs.Ytgncaploccbfnaa.PM

theorem fr_wide : (match Try.prog.underlying 98 with | some (.array _ _) | some (.struct _) => true | _ => false) = true := by kernel_rfl
theorem fr_keyType : Try.prog.keyTypeAt (Try.prog.types.size + 1) 98 = true := by kernel_rfl
theorem fr_laid : laidOutB Try.prog = true := by kernel_rfl
theorem fr_row : (98 : TypeId) < Try.prog.types.size := of_decide_eq_true (by kernel_rfl)
theorem fr_kt3 : Try.prog.keyTypeAt 3 98 = true := by kernel_rfl
set_option maxRecDepth 100000 in
theorem fr_keyed : Keyed Try.prog 98 := Keyed.of_law (deep_law_laid fr_laid (m := 3) (by omega) fr_row fr_kt3 fr_wide)
theorem fr_cells : Try.prog.cellsOf 98 = 2 := by kernel_rfl
/-- The key that a fraction is. -/
def frKey (a b : Int) : Lit := (DataW.agg [.lit (.int .i64 a), .lit (.int .i64 b)] : DataW Unit).asKey
set_option maxRecDepth 100000 in
theorem fr_key {a b : Int} (ha : I64 a) (hb : I64 b) : keyOf Try.prog 98 (.agg #[.int .i64 a, .int .i64 b]) = some (frKey a b) := by
  have wa : (Lit.int IntKind.i64 a).wf = true := WalkArith.wf_i64 ha
  have wb : (Lit.int IntKind.i64 b).wf = true := WalkArith.wf_i64 hb
  have hf : (Value.agg #[.int .i64 a, .int .i64 b]).formed Try.prog 98 = true := by
    simp [Value.formed, Try.underlying98, fr_cells]
  have hT : DataW.Trod (H := Unit) (fun _ => ()) Try.prog ⟨default, default, default, default, default⟩ 0 (fun _ => true) true 98 (.agg #[.int .i64 a, .int .i64 b]) (.agg [.lit (.int .i64 a), .lit (.int .i64 b)]) [] :=
    shut_agg2 (y0 := (.lit (.int .i64 a), [])) (y1 := (.lit (.int .i64 b), [])) Try.underlying98 (by kernel_rfl) fr_cells ⟨1, by simp [DataW.trod, Try.underlying2, wa]⟩ ⟨1, by simp [DataW.trod, Try.underlying2, wb]⟩
  exact (keyOf_asKey fr_keyType fr_wide hf hT).1
theorem fr_inj {a b c d : Int} (ha : I64 a) (hb : I64 b) (hc : I64 c) (hd : I64 d) (h : frKey a b = frKey c d) : a = c ∧ b = d := by
  have h1 := fr_key ha hb
  have h2 := fr_key hc hd
  rw [← h] at h2
  have := fr_keyed.inj h1 h2
  simpa using this
theorem fr_zero (w : World) : (zeroValue 2).run Try.prog w = .ok (.int .i64 0) w := by kernel_rfl

/-- Block B of w is a map of at most n entries that gives N x for each x of xs. -/
def MapN (w : World) (B n : Nat) (xs : List (Int × Int)) (N : Int × Int → Int) : Prop :=
  ∃ D : DataW Unit, w.ownsMap Try.prog 98 (plainElem Try.prog 2) B n D ∧ IsMap D ∧ ∀ x ∈ xs, D.atKey (frKey x.1 x.2) (.lit (.int .i64 0)) = .lit (.int .i64 (N x))
theorem MapN.heap {w w' : World} {B n : Nat} {xs : List (Int × Int)} {N : Int × Int → Int} (h : MapN w B n xs N) (hb : w'.heap[B]? = w.heap[B]?) : MapN w' B n xs N := by
  obtain ⟨D, ⟨es, cl, h1, h2⟩, h3⟩ := h
  exact ⟨D, ⟨es, cl, by rw [hb]; exact h1, h2⟩, h3⟩
theorem MapN.lt {w : World} {B n : Nat} {xs : List (Int × Int)} {N : Int × Int → Int} (h : MapN w B n xs N) : B < w.heap.size := by
  obtain ⟨D, h1, _⟩ := h
  exact h1.lt
theorem MapN.below {w w' : World} {B C n : Nat} {xs : List (Int × Int)} {N : Int × Int → Int} (h : MapN w B n xs N) (hb : Below C w w') (hC : B < C) : MapN w' B n xs N := h.heap (hb.block B hC)
theorem mapN_made (w : World) (N : Int × Int → Int) : MapN (w.alloc (.map #[] 0)) w.heap.size 0 [] N := ⟨.map [], World.ownsMap_made _ _ _ _, ⟨[], rfl⟩, fun _ hx => (List.not_mem_nil hx).elim⟩
theorem MapN.look {w : World} {B n : Nat} {xs : List (Int × Int)} {N : Int × Int → Int} (h : MapN w B n xs N) {x : Int × Int} (hx : x ∈ xs) (h1 : I64 x.1) (h2 : I64 x.2) :
    (Instr.lookup 104 (.map (some B)) (.agg #[.int .i64 x.1, .int .i64 x.2]) false).run Try.prog w = .ok (.int .i64 (N x)) w := by
  obtain ⟨D, ho, _, ha⟩ := h
  obtain ⟨c, hr, hc, _⟩ := ho.lookup_int fr_keyed Try.underlying104 Try.underlying2 (fr_zero w) (fr_key h1 h2)
  rw [ha x hx] at hc
  have : N x = c := by simpa using hc
  rw [hr, this]
theorem MapN.put {w : World} {B n : Nat} {xs : List (Int × Int)} {N : Int × Int → Int} (h : MapN w B n xs N) (hn : n < maxLen) {x : Int × Int} (h1 : I64 x.1) (h2 : I64 x.2) (hN : I64 (N x)) (hxs : ∀ y ∈ xs, I64 y.1 ∧ I64 y.2) :
    ∃ w', (Instr.mapUpdate 104 (.map (some B)) (.agg #[.int .i64 x.1, .int .i64 x.2]) (.int .i64 (N x))).run Try.prog w = .ok () w' ∧ MapN w' B (n + 1) (xs ++ [x]) N ∧ w.grownBy w' (some B) := by
  obtain ⟨D, ho, hD, ha⟩ := h
  obtain ⟨w', hr, ho', hg⟩ := ho.update fr_keyed Try.underlying104 hn (fr_key h1 h2) (plainElem_int Try.underlying2 (WalkArith.wf_i64 hN))
  refine ⟨w', hr, ⟨_, ho', hD.put _ _, fun y hy => ?_⟩, hg⟩
  by_cases e : frKey y.1 y.2 = frKey x.1 x.2
  · rw [e, atKey_put_same hD (fr_keyed.key (fr_key h1 h2))]
    rcases List.mem_append.1 hy with hy | hy
    · obtain ⟨e1, e2⟩ := fr_inj (hxs y hy).1 (hxs y hy).2 h1 h2 e
      rw [show y = x from Prod.ext e1 e2]
    · rw [show y = x by simpa using hy]
  · rcases List.mem_append.1 hy with hy | hy
    · rw [atKey_put_other e]
      exact ha y hy
    · exact absurd (by rw [show y = x by simpa using hy]) e
end Go.Proofs.Ytgncaploccbfnaa.PW
namespace Go.Proofs.Ytgncaploccbfnaa.PW
open Go.RowKit Go.Proofs.Ytgncaploccbfnaa
open Go.Proofs.Ytgncaploccbfnaa.PM

/-- What commonNums leaves. -/
def ComI (w : World) (xs : List (Int × Int)) (e : Ending) (w' : World) : Prop := match comOut xs with
  | none => e = .returned (.tuple #[.map none, .int .i64 0, .bool false]) ∧ Below w.heap.size w w'
  | some d => ∃ B, e = .returned (.tuple #[.map (some B), .int .i64 d, .bool true]) ∧ MapN w' B xs.length xs (numI d) ∧ w.heap.size ≤ B ∧ Below w.heap.size w w'

/-- The memory while a number is put into the map. -/
structure MuR (W w' : World) (B n : Nat) (xs : List (Int × Int)) (N : Int × Int → Int) (x : Int × Int) (b9 : Bool) : Prop where
  low : b9 = false → Below W.heap.size W w'
  fin : b9 = true → MapN w' B (n + 1) (xs ++ [x]) N ∧ ∃ W', Below W.heap.size W W' ∧ W'.grownBy w' (some B)
theorem MuR.put_ {W w' w2 : World} {B n : Nat} {xs ys : List (Int × Int)} {N : Int × Int → Int} {x : Int × Int} (h : MuR W w' B n xs N x false) (hy : xs ++ [x] = ys) (hm : MapN w2 B (n + 1) ys N) (hg : w'.grownBy w2 (some B)) : MuR W w2 B n xs N x true :=
  ⟨fun e => (by cases e), fun _ => ⟨by rw [hy]; exact hm, w', h.low rfl, hg⟩⟩
theorem take_snoc {α : Type} (xs : List α) (d : α) (k : Nat) (h : k < xs.length) : xs.take k ++ [xs.getD k d] = xs.take (k + 1) := by
  rw [List.take_succ_eq_append_getElem h]
  simp [h]

set_option maxRecDepth 100000 in
set_option maxHeartbeats 4000000 in
theorem commonNums_any (v : Value) (xs : List (Int × Int)) (w : World) (hv : Frs w v xs) (hF : fracs xs) (hn1 : 1 ≤ xs.length) (hn : xs.length ≤ 1000) :
    Calls Try.prog 86 #[v] w (ComI w xs) := by
  have hmx : Try.prog.follows .mixedOrders = true := by kernel_rfl
  obtain ⟨b, off, c, rfl, hb, hcell⟩ := hv.at_ hn1
  have HI6 := Lib.hid hv.i64
  have hmm := @run_makeMap Try.prog
  have HC := Lib.hid hcell
  have HFr := Lib.hid (fun k (hk : k < xs.length) => FM.isF_yes (hF _ (getD_mem2 hk)))
  have HFI := Lib.hid (fun k (hk : k < xs.length) => hF _ (getD_mem2 hk))
  have HNO := Lib.hid (show comD 1 xs = none → ∀ w', Below w.heap.size w w' → ComI w xs (.returned (.tuple #[.map none, .int .i64 0, .bool false])) w' from fun h w' hw => by
    unfold ComI comOut; rw [h]; exact ⟨rfl, hw⟩)
  have HNO2 := Lib.hid (show ∀ d, comD 1 xs = some d → numsOk d xs = false → ∀ w', Below w.heap.size w w' → ComI w xs (.returned (.tuple #[.map none, .int .i64 0, .bool false])) w' from fun d h h2 w' hw => by
    unfold ComI comOut; rw [h]; simp only [h2]; exact ⟨by simp, hw⟩)
  have HYES := Lib.hid (show ∀ d, comD 1 xs = some d → numsOk d xs = true → ∀ B w', MapN w' B xs.length xs (numI d) → w.heap.size ≤ B → Below w.heap.size w w' → ComI w xs (.returned (.tuple #[.map (some B), .int .i64 d, .bool true])) w' from fun d h h2 B w' hf hB hw => by
    unfold ComI comOut; rw [h]; simp only [h2]; exact ⟨B, by simp, hf, hB, hw⟩)
  have HIF := Lib.hid (fun d => numsOk_iff d xs)
  generalize ComI w xs = POST at *
  clear hv hcell hF
  go_enter Try.func86, Try.ntmps86
  go_wp2_with fail
  go_loopw [5, 7, 13] (fun d _ i wr => ∃ (k : Nat) (y : Int), k ≤ xs.length ∧ i = .int .i64 k ∧ d = .int .i64 y ∧ (1 ≤ y ∧ y ≤ 1000000000) ∧ Hid (comD 1 xs = comD y (xs.drop k)) ∧ Below w.heap.size w wr) (fun _ _ i _ => xs.length - (intOf i).toNat)
  case atStart => exact ⟨0, 1, Nat.zero_le _, rfl, rfl, by omega, rfl, Below.refl _ _⟩
  case round =>
    obtain ⟨k, y, hk, rfl, rfl, hy, hcom, hB⟩ := hrel
    by_cases hlt : k < xs.length
    · obtain ⟨c1, c2⟩ := HC.out wr hB k hlt
      have hst := comD_drop hlt y
      obtain ⟨f1, f2, f3, f4, _⟩ := HFr.out k hlt
      obtain ⟨x, hx⟩ : ∃ x, x = (xs.getD k (0, 0)).1 := ⟨_, rfl⟩
      obtain ⟨z, hz⟩ : ∃ z, z = (xs.getD k (0, 0)).2 := ⟨_, rfl⟩
      rw [← hx] at c1
      rw [← hz] at c2 hst f3 f4
      obtain ⟨g1, g2, ⟨g3, g4⟩, g5, g6⟩ := com_step hy (y := z) ⟨f3, f4⟩
      have hgc := fun w' => FW.greatestDivisor_any y z w' (by omega) (by omega) (by omega) (by omega)
      obtain ⟨G, hG⟩ : ∃ G, G = FM.gcdI y z := ⟨_, rfl⟩
      rw [← hG] at hst g1 g2 g3 g4 g5 g6
      simp only [← hG] at hgc
      have HG := Lib.hid hgc
      have hG0 : ¬ G = 0 := by omega
      obtain ⟨q, hq⟩ : ∃ q, q = y.tdiv G := ⟨_, rfl⟩
      rw [← hq] at hst g3 g4 g5 g6
      obtain ⟨p, hp⟩ : ∃ p, p = q * z := ⟨_, rfl⟩
      rw [← hp] at hst g5 g6
      have hw1 : wrap64 q = q := IntWalk.wrap64_in _ (by omega)
      have hw2 : wrap64 p = p := IntWalk.wrap64_in _ (by omega)
      have hzw := hB.size
      have HBd := Lib.hid (fun n => below_drewN (hB.alloc hzw (.cells #[.int .i64 x, .int .i64 z] 98)) n)
      have HST := Lib.hid hst
      have HP5 := Lib.hid (And.intro g5 g6)
      have hq' := hq.symm
      have hp' := hp.symm
      clear hst f1 f2 f3 f4 g1 g2 g3 g4 g5 g6 hgc hG hq hp hz hx hB
      by_cases hlim : 1000000000 < p
      · have HO := Lib.hid (HNO.out (hcom.out.trans (HST.out.trans (if_pos hlim))))
        go_wp2_with fail
        go_quiet ((go_at_call 126; exact Calls.quiet_of (HG.out _)))
        go_wp2_with fail
        exact HO.out _ (HBd.out _)
      · have hnx : Hid (comD 1 xs = comD p (xs.drop (k + 1))) := hcom.out.trans (HST.out.trans (if_neg hlim))
        go_wp2_with fail
        go_quiet ((go_at_call 126; exact Calls.quiet_of (HG.out _)))
        go_wp2_with fail
        go_roundw
        case rel => exact ⟨k + 1, p, by omega, by go_num, (by first | rfl | rw [hw2]), ⟨HP5.out.1, by omega⟩, hnx, HBd.out _⟩
        case measure => simp [intOf]; omega
    · obtain rfl : k = xs.length := by omega
      have hd : comD 1 xs = some y := by rw [hcom.out, List.drop_length]; rfl
      have HD := Lib.hid hd
      obtain ⟨W1, rfl⟩ : ∃ W1, W1 = wr := ⟨_, rfl⟩
      have HB1 := Lib.hid hB
      have hzr := hB.size
      have HM0 := Lib.hid (mapN_made W1 (numI y))
      have hA0 : Below W1.heap.size W1 (W1.alloc (.map #[] 0)) := (Below.refl _ _).alloc (Nat.le_refl _) _
      clear hd hcom hB
      obtain ⟨B, hBe⟩ : ∃ B, B = W1.heap.size := ⟨_, rfl⟩
      go_wp2_with fail
      rw [← hBe]
      rw [← hBe] at HM0
      have hBz : W1.heap.size ≤ B := by omega
      clear hBe
      go_loopw [10, 32] (fun _ i wi => ∃ (k : Nat), k ≤ xs.length ∧ i = .int .i64 k ∧ MapN wi B k (xs.take k) (numI y) ∧ Hid (∀ j, j < k → -1000000000000 ≤ numI y (xs.getD j (0, 0)) ∧ numI y (xs.getD j (0, 0)) ≤ 1000000000000) ∧ Below W1.heap.size W1 wi) (fun _ i _ => xs.length - (intOf i).toNat)
      case atStart => exact ⟨0, Nat.zero_le _, rfl, HM0.out, fun j hj => absurd hj (Nat.not_lt_zero _), hA0⟩
      case round =>
        obtain ⟨k, hk, rfl, hM, hgood, hB⟩ := hrel
        have hzi := hB.size
        by_cases hlt : k < xs.length
        · obtain ⟨c1, c2⟩ := HC.out wr (HB1.out.trans (hB.mono hzr)) k hlt
          obtain ⟨f1, f2, f3, f4, _⟩ := HFr.out k hlt
          obtain ⟨⟨q1, q2⟩, n1, n2⟩ := numI_bd hy (HFI.out k hlt)
          have hnum : numI y (xs.getD k (0, 0)) = (xs.getD k (0, 0)).1 * y.tdiv (xs.getD k (0, 0)).2 := rfl
          have hsn := take_snoc xs (0, 0) k hlt
          have hbad : Hid (¬ (-1000000000000 ≤ numI y (xs.getD k (0, 0)) ∧ numI y (xs.getD k (0, 0)) ≤ 1000000000000) → numsOk y xs = false) := fun h => by
            rw [Bool.eq_false_iff]
            intro c
            exact h ((HIF.out y).1 c k hlt)
          have hnx : Hid (-1000000000000 ≤ numI y (xs.getD k (0, 0)) ∧ numI y (xs.getD k (0, 0)) ≤ 1000000000000 → ∀ j, j < k + 1 → -1000000000000 ≤ numI y (xs.getD j (0, 0)) ∧ numI y (xs.getD j (0, 0)) ≤ 1000000000000) := fun h j hj => by
            by_cases e : j = k
            · subst e; exact h
            · exact hgood.out j (by omega)
          have hput := fun (w' : World) (h : Below wr.heap.size wr w') => (hM.below h hM.lt).put (x := xs.getD k (0, 0)) (by unfold maxLen; omega) (HI6.out _ (getD_mem2 hlt)).1 (HI6.out _ (getD_mem2 hlt)).2 (show I64 _ from ⟨by omega, by omega⟩) (fun u hu => HI6.out u (List.mem_of_mem_take hu))
          have hlook := fun (w' : World) (h : MapN w' B (k + 1) (xs.take (k + 1)) (numI y)) => h.look (x := xs.getD k (0, 0)) (by rw [← hsn]; simp) (HI6.out _ (getD_mem2 hlt)).1 (HI6.out _ (getD_mem2 hlt)).2
          rw [hsn] at hput
          obtain ⟨X, hX⟩ : ∃ X, X = xs.getD k (0, 0) := ⟨_, rfl⟩
          rw [← hX] at hnum n1 n2 hbad hnx q1 q2 f1 f2 f3 f4 c1 c2 hput hlook
          obtain ⟨x, z⟩ := X
          simp only at hnum f1 f2 f3 f4 q1 q2 c1 c2 hput hlook
          obtain ⟨N, hN⟩ : ∃ N, N = numI y (x, z) := ⟨_, rfl⟩
          rw [← hN] at hnum n1 n2 hbad hnx hput hlook
          have hz0 : ¬ z = 0 := by omega
          obtain ⟨Y, hY⟩ : ∃ Y, Y = y.tdiv z := ⟨_, rfl⟩
          rw [← hY] at hnum q1 q2
          have HPUT := Lib.hid hput
          have HSN := Lib.hid (show xs.take k ++ [(x, z)] = xs.take (k + 1) by rw [← hsn, hX])
          have HLOOK := Lib.hid hlook
          have HBW := Lib.hid hB
          have hw1 : wrap64 Y = Y := IntWalk.wrap64_in _ (by omega)
          have hw2 : wrap64 N = N := IntWalk.wrap64_in _ (by omega)
          have hv1 : IntKind.i64.wrap Y = Y := IntWalk.i64_in _ (by omega)
          have hv2 : IntKind.i64.wrap N = N := IntWalk.i64_in _ (by omega)
          have hBlt := hM.lt
          have hnum' := hnum.symm
          have hY' := hY.symm
          clear hnum hY hN hX f1 f2 f3 f4 q1 q2 hsn hB hM hput hlook
          go_wp2_with fail
          have hAL : Below wr.heap.size wr (wr.alloc (.cells #[.int .i64 x, .int .i64 z] 98)) := (Below.refl _ _).alloc (Nat.le_refl _) _
          obtain ⟨P, hP⟩ : ∃ P, P = wr.heap.size := ⟨_, rfl⟩
          have hPB : P ≠ B := by omega
          obtain ⟨W, hW⟩ : ∃ W, W = wr.alloc (.cells #[.int .i64 x, .int .i64 z] 98) := ⟨_, rfl⟩
          have hPW : P < W.heap.size := by rw [hW]; simp; omega
          have z0 : W.cell? ⟨P, 0, none⟩ = some (.int .i64 x) := by rw [hW, hP]; simp
          have z1 : W.cell? ⟨P, 1, none⟩ = some (.int .i64 z) := by rw [hW, hP]; simp
          rw [← hW] at hAL ⊢
          rw [← hP]
          have HAL := Lib.hid hAL
          have HNB := Lib.hid (And.intro n1 n2)
          clear hAL hW hP n1 n2 hw1 hw2 hBlt hzi
          rename_i K0 hK0
          refine (wpIn_wide (n := 8)).1 ?_
          refine PR.wpIn_region_inv hmx (by kernel_rfl) (fun listed ac w' =>
              ∃ (b0 b1 b2 b3 b4 b5 b6 b7 b8 b9 : Bool), ((b3 = true → b2 = true) ∧ (b6 = true → b5 = true) ∧ (b7 = true → b4 = true ∧ b6 = true) ∧ (b8 = true → b3 = true ∧ b7 = true) ∧ (b9 = true → b0 = true ∧ b1 = true ∧ b8 = true)) ∧ listed = #[b0, b1, b2, b3, b4, b5, b6, b7, b8, b9] ∧
                ac = { tmps := #[.slice (some ⟨b, off, none⟩) xs.length c, undef, u2, u3, u4, .int .i64 y, undef, u7, .map (some B), undef, .pointer (some ⟨P, 0, none⟩), .slice (some ⟨b, off, none⟩) xs.length c, .int .i64 xs.length, .int .i64 xs.length, .bool false, u15, u16, u17, u18, u19, u20, u21, u22, u23, u24, u25, u26, u27, u28, .map (some B), .slice (some ⟨b, off, none⟩) xs.length c, .int .i64 xs.length, .int .i64 k, .bool true, .pointer (some ⟨b, off + k * 2, none⟩), .agg #[.int .i64 x, .int .i64 z], cond b0 (.map (some B)) (u36), cond b1 (.agg #[.int .i64 x, .int .i64 z]) (u37), cond b2 (.pointer (some ⟨P, 0, none⟩)) (u38), cond b3 (.int .i64 x) (u39), cond b4 (.int .i64 y) (u40), cond b5 (.pointer (some ⟨P, 1, none⟩)) (u41), cond b6 (.int .i64 z) (u42), cond b7 (.int .i64 Y) (u43), cond b8 (.int .i64 N) (u44), u45, u46, u47, u48, u49, u50, undef, undef], defers := [] } ∧ MuR W w' B k (xs.take k) (numI y) (x, z) b9) ?_ ?_ ?_ ?_
          · rintro listed ac w' ⟨b0, b1, b2, b3, b4, b5, b6, b7, b8, b9, _, rfl, _⟩
            rfl
          · rintro listed ac w' ⟨b0, b1, b2, b3, b4, b5, b6, b7, b8, b9, _, rfl, rfl, hR⟩ hall
            have h0 := hall 0 (by simp)
            have h1 := hall 1 (by simp)
            have h2 := hall 2 (by simp)
            have h3 := hall 3 (by simp)
            have h4 := hall 4 (by simp)
            have h5 := hall 5 (by simp)
            have h6 := hall 6 (by simp)
            have h7 := hall 7 (by simp)
            have h8 := hall 8 (by simp)
            have h9 := hall 9 (by simp)
            simp at h0 h1 h2 h3 h4 h5 h6 h7 h8 h9
            subst h0 h1 h2 h3 h4 h5 h6 h7 h8 h9
            clear hall
            refine hK0 _ _ ?_
            simp only [cond_true]
            obtain ⟨hm, W', hl, hgr⟩ := hR.fin rfl
            rw [HSN.out] at hm
            have HM := Lib.hid hm
            have hbw : Below W1.heap.size W1 w' := by
              have h1 : Below W1.heap.size W1 W := HBW.out.trans (HAL.out.mono HBW.out.size)
              have h2 : Below W1.heap.size W1 W' := h1.trans (hl.mono h1.size)
              exact h2.grown hgr h2.size (fun b hb => by obtain rfl : B = b := (by simpa using hb); exact hBz)
            have hpb : w'.cell? ⟨P, 0, none⟩ = some (.int .i64 x) ∧ w'.cell? ⟨P, 1, none⟩ = some (.int .i64 z) := by
              have e : w'.heap[P]? = W.heap[P]? := (hgr.block P (by have := hl.size; omega) (fun c => hPB (by simpa using c))).trans (hl.block P (by omega))
              exact ⟨(World.cell?_of_block (w := W) (a := ⟨P, 0, none⟩) e).trans z0, (World.cell?_of_block (w := W) (a := ⟨P, 1, none⟩) e).trans z1⟩
            obtain ⟨t0, t1⟩ := hpb
            have hrl := HLOOK.out w' hm
            have HB2 := Lib.hid hbw
            clear hR hl hgr hm hbw z0 z1
            by_cases hin : -1000000000000 ≤ N ∧ N ≤ 1000000000000
            case neg =>
              have HO := Lib.hid (HNO2.out y HD.out (hbad.out hin) w' (HB1.out.trans (HB2.out.mono hzr)))
              have HDD := Lib.hid (show decide (-1000000000000 ≤ N ∧ N ≤ 1000000000000) = false from decide_eq_false hin)
              clear hin hnx hbad
              go_wp2_with fail
              refine (isWithin_is _ _ _ _ (by omega) (by omega) HDD.out).mono ?_; rintro e w2 ⟨rfl, rfl⟩
              go_wp2_with fail
              exact HO.out
            have HX := Lib.hid (hnx.out hin)
            have HDD := Lib.hid (show decide (-1000000000000 ≤ N ∧ N ≤ 1000000000000) = true from decide_eq_true hin)
            clear hin hnx hbad
            go_wp2_with fail
            refine (isWithin_is _ _ _ _ (by omega) (by omega) HDD.out).mono ?_; rintro e w2 ⟨rfl, rfl⟩
            go_wp2_with fail
            go_roundw
            case rel => exact ⟨k + 1, by omega, by go_num, HM.out, HX, HB2.out⟩
            case measure => simp [intOf]; omega
          · exact ⟨false, false, false, false, false, false, false, false, false, false, by simp, rfl, rfl, ⟨fun _ => (Below.refl _ _).drew, fun e => (by cases e)⟩⟩
          · rintro listed ac w' i oi ⟨b0, b1, b2, b3, b4, b5, b6, b7, b8, b9, ⟨e3, e6, e7, e8, e9⟩, rfl, rfl, hR⟩ ho hun hdep
            have hi : i < 10 := by simpa using (Array.getElem?_eq_some_iff.1 ho).1
            obtain rfl | rfl | rfl | rfl | rfl | rfl | rfl | rfl | rfl | rfl : i = 0 ∨ i = 1 ∨ i = 2 ∨ i = 3 ∨ i = 4 ∨ i = 5 ∨ i = 6 ∨ i = 7 ∨ i = 8 ∨ i = 9 := by omega
            · -- 0
              simp only [List.getElem?_toArray, List.getElem?_cons_zero, Option.some.injEq] at ho
              subst ho
              have hbi : b0 = false := by simpa using hun
              subst hbi
              obtain rfl : b9 = false := Bool.eq_false_iff.2 (fun h => Bool.noConfusion (e9 h).1)
              refine wpOpIn_step rfl (fun K hK => ?_)
              clear hun hdep hi
              go_simp
              refine hK _ _ ⟨true, b1, b2, b3, b4, b5, b6, b7, b8, false, ⟨e3, e6, e7, e8, fun h => Bool.noConfusion h⟩, rfl, rfl, hR⟩
            · -- 1
              simp only [List.getElem?_toArray, List.getElem?_cons_succ, List.getElem?_cons_zero, Option.some.injEq] at ho
              subst ho
              have hbi : b1 = false := by simpa using hun
              subst hbi
              obtain rfl : b9 = false := Bool.eq_false_iff.2 (fun h => Bool.noConfusion (e9 h).2.1)
              refine wpOpIn_step rfl (fun K hK => ?_)
              clear hun hdep hi
              have t0 := ((hR.low rfl).cell (p := ⟨P, 0, none⟩) hPW).trans z0
              have t1 := ((hR.low rfl).cell (p := ⟨P, 1, none⟩) hPW).trans z1
              go_simp
              refine hK _ _ ⟨b0, true, b2, b3, b4, b5, b6, b7, b8, false, ⟨e3, e6, e7, e8, fun h => Bool.noConfusion h⟩, rfl, rfl, hR⟩
            · -- 2
              simp only [List.getElem?_toArray, List.getElem?_cons_succ, List.getElem?_cons_zero, Option.some.injEq] at ho
              subst ho
              have hbi : b2 = false := by simpa using hun
              subst hbi
              obtain rfl : b3 = false := Bool.eq_false_iff.2 (fun h => Bool.noConfusion (e3 h))
              obtain rfl : b8 = false := Bool.eq_false_iff.2 (fun h => Bool.noConfusion (e8 h).1)
              obtain rfl : b9 = false := Bool.eq_false_iff.2 (fun h => Bool.noConfusion (e9 h).2.2)
              refine wpOpIn_step rfl (fun K hK => ?_)
              clear hun hdep hi
              go_simp
              refine hK _ _ ⟨b0, b1, true, false, b4, b5, b6, b7, false, false, ⟨fun h => Bool.noConfusion h, e6, e7, fun h => Bool.noConfusion h, fun h => Bool.noConfusion h⟩, rfl, rfl, hR⟩
            · -- 3
              simp only [List.getElem?_toArray, List.getElem?_cons_succ, List.getElem?_cons_zero, Option.some.injEq] at ho
              subst ho
              have hbi : b3 = false := by simpa using hun
              subst hbi
              have hd2 : b2 = true := by have := hdep ⟨2, .data⟩ (by simp) rfl; simpa using this
              subst hd2
              obtain rfl : b8 = false := Bool.eq_false_iff.2 (fun h => Bool.noConfusion (e8 h).1)
              obtain rfl : b9 = false := Bool.eq_false_iff.2 (fun h => Bool.noConfusion (e9 h).2.2)
              refine wpOpIn_step rfl (fun K hK => ?_)
              clear hun hdep hi
              have t0 := ((hR.low rfl).cell (p := ⟨P, 0, none⟩) hPW).trans z0
              go_simp
              refine hK _ _ ⟨b0, b1, true, true, b4, b5, b6, b7, false, false, ⟨fun _ => rfl, e6, e7, fun h => Bool.noConfusion h, fun h => Bool.noConfusion h⟩, rfl, rfl, hR⟩
            · -- 4
              simp only [List.getElem?_toArray, List.getElem?_cons_succ, List.getElem?_cons_zero, Option.some.injEq] at ho
              subst ho
              have hbi : b4 = false := by simpa using hun
              subst hbi
              obtain rfl : b7 = false := Bool.eq_false_iff.2 (fun h => Bool.noConfusion (e7 h).1)
              obtain rfl : b8 = false := Bool.eq_false_iff.2 (fun h => Bool.noConfusion (e8 h).2)
              obtain rfl : b9 = false := Bool.eq_false_iff.2 (fun h => Bool.noConfusion (e9 h).2.2)
              refine wpOpIn_step rfl (fun K hK => ?_)
              clear hun hdep hi
              go_simp
              refine hK _ _ ⟨b0, b1, b2, b3, true, b5, b6, false, false, false, ⟨e3, e6, fun h => Bool.noConfusion h, fun h => Bool.noConfusion h, fun h => Bool.noConfusion h⟩, rfl, rfl, hR⟩
            · -- 5
              simp only [List.getElem?_toArray, List.getElem?_cons_succ, List.getElem?_cons_zero, Option.some.injEq] at ho
              subst ho
              have hbi : b5 = false := by simpa using hun
              subst hbi
              obtain rfl : b6 = false := Bool.eq_false_iff.2 (fun h => Bool.noConfusion (e6 h))
              obtain rfl : b7 = false := Bool.eq_false_iff.2 (fun h => Bool.noConfusion (e7 h).2)
              obtain rfl : b8 = false := Bool.eq_false_iff.2 (fun h => Bool.noConfusion (e8 h).2)
              obtain rfl : b9 = false := Bool.eq_false_iff.2 (fun h => Bool.noConfusion (e9 h).2.2)
              refine wpOpIn_step rfl (fun K hK => ?_)
              clear hun hdep hi
              go_simp
              refine hK _ _ ⟨b0, b1, b2, b3, b4, true, false, false, false, false, ⟨e3, fun h => Bool.noConfusion h, fun h => Bool.noConfusion h, fun h => Bool.noConfusion h, fun h => Bool.noConfusion h⟩, rfl, rfl, hR⟩
            · -- 6
              simp only [List.getElem?_toArray, List.getElem?_cons_succ, List.getElem?_cons_zero, Option.some.injEq] at ho
              subst ho
              have hbi : b6 = false := by simpa using hun
              subst hbi
              have hd5 : b5 = true := by have := hdep ⟨5, .data⟩ (by simp) rfl; simpa using this
              subst hd5
              obtain rfl : b7 = false := Bool.eq_false_iff.2 (fun h => Bool.noConfusion (e7 h).2)
              obtain rfl : b8 = false := Bool.eq_false_iff.2 (fun h => Bool.noConfusion (e8 h).2)
              obtain rfl : b9 = false := Bool.eq_false_iff.2 (fun h => Bool.noConfusion (e9 h).2.2)
              refine wpOpIn_step rfl (fun K hK => ?_)
              clear hun hdep hi
              have t1 := ((hR.low rfl).cell (p := ⟨P, 1, none⟩) hPW).trans z1
              go_simp
              refine hK _ _ ⟨b0, b1, b2, b3, b4, true, true, false, false, false, ⟨e3, fun _ => rfl, fun h => Bool.noConfusion h, fun h => Bool.noConfusion h, fun h => Bool.noConfusion h⟩, rfl, rfl, hR⟩
            · -- 7
              simp only [List.getElem?_toArray, List.getElem?_cons_succ, List.getElem?_cons_zero, Option.some.injEq] at ho
              subst ho
              have hbi : b7 = false := by simpa using hun
              subst hbi
              have hd4 : b4 = true := by have := hdep ⟨4, .data⟩ (by simp) rfl; simpa using this
              have hd6 : b6 = true := by have := hdep ⟨6, .data⟩ (by simp) rfl; simpa using this
              have hd5 : b5 = true := (e6 hd6)
              subst hd4 hd5 hd6
              obtain rfl : b8 = false := Bool.eq_false_iff.2 (fun h => Bool.noConfusion (e8 h).2)
              obtain rfl : b9 = false := Bool.eq_false_iff.2 (fun h => Bool.noConfusion (e9 h).2.2)
              refine wpOpIn_step rfl (fun K hK => ?_)
              clear hun hdep hi
              go_simp
              refine hK _ _ ⟨b0, b1, b2, b3, true, true, true, true, false, false, ⟨e3, fun _ => rfl, fun _ => ⟨rfl, rfl⟩, fun h => Bool.noConfusion h, fun h => Bool.noConfusion h⟩, rfl, rfl, hR⟩
            · -- 8
              simp only [List.getElem?_toArray, List.getElem?_cons_succ, List.getElem?_cons_zero, Option.some.injEq] at ho
              subst ho
              have hbi : b8 = false := by simpa using hun
              subst hbi
              have hd3 : b3 = true := by have := hdep ⟨3, .data⟩ (by simp) rfl; simpa using this
              have hd7 : b7 = true := by have := hdep ⟨7, .data⟩ (by simp) rfl; simpa using this
              have hd6 : b6 = true := (e7 hd7).2
              have hd5 : b5 = true := (e6 hd6)
              have hd4 : b4 = true := (e7 hd7).1
              have hd2 : b2 = true := (e3 hd3)
              subst hd2 hd3 hd4 hd5 hd6 hd7
              obtain rfl : b9 = false := Bool.eq_false_iff.2 (fun h => Bool.noConfusion (e9 h).2.2)
              refine wpOpIn_step rfl (fun K hK => ?_)
              clear hun hdep hi
              go_simp
              refine hK _ _ ⟨b0, b1, true, true, true, true, true, true, true, false, ⟨fun _ => rfl, fun _ => rfl, fun _ => ⟨rfl, rfl⟩, fun _ => ⟨rfl, rfl⟩, fun h => Bool.noConfusion h⟩, rfl, rfl, hR⟩
            · -- 9
              simp only [List.getElem?_toArray, List.getElem?_cons_succ, List.getElem?_cons_zero, Option.some.injEq] at ho
              subst ho
              have hbi : b9 = false := by simpa using hun
              subst hbi
              have hd0 : b0 = true := by have := hdep ⟨0, .data⟩ (by simp) rfl; simpa using this
              have hd1 : b1 = true := by have := hdep ⟨1, .data⟩ (by simp) rfl; simpa using this
              have hd8 : b8 = true := by have := hdep ⟨8, .data⟩ (by simp) rfl; simpa using this
              have hd7 : b7 = true := (e8 hd8).2
              have hd6 : b6 = true := (e7 hd7).2
              have hd5 : b5 = true := (e6 hd6)
              have hd4 : b4 = true := (e7 hd7).1
              have hd3 : b3 = true := (e8 hd8).1
              have hd2 : b2 = true := (e3 hd3)
              subst hd0 hd1 hd2 hd3 hd4 hd5 hd6 hd7 hd8
              refine wpOpIn_step rfl (fun K hK => ?_)
              clear hun hdep hi
              obtain ⟨w2, hrun, hm2, hg2⟩ := HPUT.out w' (HAL.out.trans ((hR.low rfl).mono HAL.out.size))
              go_simp
              refine hK _ _ ⟨true, true, true, true, true, true, true, true, true, true, ⟨fun _ => rfl, fun _ => rfl, fun _ => ⟨rfl, rfl⟩, fun _ => ⟨rfl, rfl⟩, fun _ => ⟨rfl, rfl, rfl⟩⟩, rfl, rfl, hR.put_ HSN.out hm2 hg2⟩
        · obtain rfl : k = xs.length := by omega
          have hok : Hid (numsOk y xs = true) := (HIF.out y).2 hgood.out
          rw [List.take_length] at hM
          have HY := Lib.hid (HYES.out y HD.out hok.out B wr hM (by omega) (HB1.out.trans (hB.mono hzr)))
          clear hM hB hgood
          go_wp2_with fail
          exact HY.out
end Go.Proofs.Ytgncaploccbfnaa.PW
namespace Go.Proofs.Ytgncaploccbfnaa.PW
open Go.RowKit Go.Proofs.Ytgncaploccbfnaa
open Go.Proofs.Ytgncaploccbfnaa.PM

/-- The first k of n numbers are written, the others 0. -/
def filN (n k : Nat) (F : Nat → Int) : List Int := (List.range n).map fun j => if j < k then F j else 0
theorem filN_zero (n : Nat) (F : Nat → Int) : filN n 0 F = List.replicate n 0 := by
  unfold filN
  apply List.ext_getElem
  · simp
  · intro i h1 h2; simp [List.getElem_replicate]
theorem filN_all (n : Nat) (F : Nat → Int) : filN n n F = (List.range n).map F := by
  unfold filN
  apply List.map_congr_left
  intro j hj
  rw [if_pos (by simpa using hj)]
theorem filN_set (n k : Nat) (F : Nat → Int) : (filN n k F).set k (F k) = filN n (k + 1) F := by
  unfold filN
  apply List.ext_getElem
  · simp
  · intro i h1 h2
    rw [List.getElem_set]
    simp only [List.getElem_map, List.getElem_range]
    by_cases e : k = i
    · subst e; rw [if_pos rfl, if_pos (by omega)]
    · rw [if_neg e]
      by_cases hl : i < k
      · rw [if_pos hl, if_pos (by omega)]
      · rw [if_neg hl, if_neg (by omega)]
theorem filN_length (n k : Nat) (F : Nat → Int) : (filN n k F).length = n := by simp [filN]
theorem FreshI.setN {B n g cap : Nat} {w : World} {xs : List Int} (h : FreshI B w (.slice (some ⟨g, 0, none⟩) n cap) xs) (k : Nat) (x : Int) : FreshI B (w.setCell ⟨g, k, none⟩ (.int .i64 x)) (.slice (some ⟨g, 0, none⟩) n cap) (xs.set k x) := by
  obtain ⟨g', cap', hv, hB, hlt, ho⟩ := h
  simp only [Value.slice.injEq, Option.some.injEq, Addr.mk.injEq, and_true] at hv
  obtain ⟨rfl, rfl, rfl⟩ := hv
  refine ⟨g, cap, by simp, hB, by simpa using hlt, ?_⟩
  exact own_set ho k x
/-- What a look-up gives at each fraction of a list, in whatever later world. -/
def Looks (w : World) (mv : Value) (xs : List (Int × Int)) (N : Int × Int → Int) : Prop :=
  ∀ w', Below w.heap.size w w' → ∀ x ∈ xs, (Instr.lookup 104 mv (.agg #[.int .i64 x.1, .int .i64 x.2]) false).run Try.prog w' = .ok (.int .i64 (N x)) w'
theorem Looks.below {w w1 : World} {mv : Value} {xs : List (Int × Int)} {N : Int × Int → Int} (h : Looks w mv xs N) (hb : Below w.heap.size w w1) : Looks w1 mv xs N := fun w' h' x hx => h w' (hb.trans (h'.mono hb.size)) x hx
theorem looks_map {w : World} {B n : Nat} {xs : List (Int × Int)} {N : Int × Int → Int} (h : MapN w B n xs N) (hx : ∀ x ∈ xs, I64 x.1 ∧ I64 x.2) : Looks w (.map (some B)) xs N :=
  fun _ hw x hxx => (h.below hw h.lt).look hxx (hx x hxx).1 (hx x hxx).2
theorem looks_nil (w : World) {xs : List (Int × Int)} (hx : ∀ x ∈ xs, I64 x.1 ∧ I64 x.2) : Looks w (.map none) xs (fun _ => 0) :=
  fun w' _ x hxx => by
    have := Maps.look_nil (w := w') false fr_keyed Try.underlying104 (fr_zero w') (fr_key (hx x hxx).1 (hx x hxx).2)
    simpa using this

/-- The sum of the first k numbers. -/
def sumNk (L : List Int) (k : Nat) : Int := (L.take k).foldl (· + ·) 0
theorem sumNk_zero (L : List Int) : sumNk L 0 = 0 := rfl
theorem sumNk_succ (L : List Int) (k : Nat) (h : k < L.length) : sumNk L (k + 1) = sumNk L k + L.getD k 0 := by
  unfold sumNk
  rw [List.take_succ_eq_append_getElem h, List.foldl_append]
  simp [h]
theorem sumNk_bd {L : List Int} {C : Int} (_h0 : 0 ≤ C) (h : ∀ i, i < L.length → -C ≤ L.getD i 0 ∧ L.getD i 0 ≤ C) : ∀ k, k ≤ L.length → -(C * k) ≤ sumNk L k ∧ sumNk L k ≤ C * k := by
  intro k
  induction k with
  | zero => intro _; simp [sumNk_zero]
  | succ k ih =>
    intro hk
    have := ih (by omega)
    have := h k (by omega)
    rw [sumNk_succ L k (by omega)]
    have e : C * ((k + 1 : Nat) : Int) = C * k + C := by rw [show ((k + 1 : Nat) : Int) = (k : Int) + 1 by omega, Int.mul_add, Int.mul_one]
    rw [e]
    omega
end Go.Proofs.Ytgncaploccbfnaa.PW
