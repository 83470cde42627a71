/-
  Walks: ExchangePlayers in the program and in the model.
-/
import Derived.Test.YtkdgnegnndedaaaGTwo
import Derived.Test.YtkdgnegnndedaaaGIs
import Derived.Deep.RegionWith
namespace Go.Proofs.Ytkdgnegnndedaaa.PW
open Go.RowKit Go.Proofs.Ytkdgnegnndedaaa
open Go.Proofs.Ytkdgnegnndedaaa.PM

def xchOut (A B : List (List Int)) : List (List Int) × List (List Int) × Int := if isGB A B = true then (turnL B A.length (gcols A), turnL A A.length (gcols A), 0) else ([], [], 1)
theorem xchOut_no {A B : List (List Int)} (h : isGB A B = false) : xchOut A B = ([], [], 1) := by unfold xchOut; rw [if_neg (by simp [h])]
theorem xchOut_ok {A B : List (List Int)} (h : isGB A B = true) : xchOut A B = (turnL B A.length (gcols A), turnL A A.length (gcols A), 0) := by unfold xchOut; rw [if_pos h]
theorem turn_fine {T : List (List Int)} {k l : Nat} (hk : k ≤ 5) (hl : l ≤ 5) (hg : ∀ i j, i < k → j < l → 1 ≤ gE T i j ∧ gE T i j ≤ 20) : (∀ j, j < (turnL T k l).length → ∀ x ∈ (turnL T k l).getD j [], I64 x) ∧ tot (turnL T k l) ≤ 1048576 := by
  constructor
  · intro j hj x hx
    rw [turnL_length] at hj
    rw [show (turnL T k l).getD j [] = colL T k j by simp [turnL, hj]] at hx
    obtain ⟨i, hi, rfl⟩ := List.mem_map.1 hx
    have := hg i j (by simpa using hi) hj
    unfold I64; omega
  · have h1 : ((turnL T k l).map List.length).sum ≤ l * k := by
      rw [show (turnL T k l).map List.length = List.replicate l k by
        unfold turnL colL
        rw [List.map_map]
        apply List.ext_getElem
        · simp
        · intro i h1 h2; simp]
      simp
    have h2 : l * k ≤ 5 * 5 := Nat.mul_le_mul hl hk
    unfold PM.tot
    rw [turnL_length]
    omega
theorem fine_xch (A B : List (List Int)) : FineG (xchOut A B) := by
  unfold xchOut
  split
  · rename_i h
    have hg := (isGB_iff A B).1 h
    have h5 := hg.n5
    have h1 := turn_fine (T := B) (k := A.length) (l := gcols A) (by omega) (by omega) hg.be
    have h2 := turn_fine (T := A) (k := A.length) (l := gcols A) (by omega) (by omega) hg.ae
    exact ⟨h1.1, h2.1, h1.2, h2.2⟩
  · exact ⟨fun j hj => absurd hj (Nat.not_lt_zero _), fun j hj => absurd hj (Nat.not_lt_zero _), (by show PM.tot [] ≤ _; unfold PM.tot; simp), (by show PM.tot [] ≤ _; unfold PM.tot; simp)⟩
/-- A game's box, and behind it the box of a game that is told. -/
structure Gc (w wr : World) (p0 p1 : Value) : Prop where
  b : Below w.heap.size w wr
  k0 : wr.cell? ⟨w.heap.size, 0, none⟩ = some p0
  k1 : wr.cell? ⟨w.heap.size, 1, none⟩ = some p1
  k2 : wr.cell? ⟨w.heap.size + 1, 0, none⟩ = some (.slice none 0 0)
  k3 : wr.cell? ⟨w.heap.size + 1, 1, none⟩ = some (.slice none 0 0)
  f : ∀ o, wr.frozen? ⟨w.heap.size + 1, o, none⟩ = false
  z : w.heap.size + 1 < wr.heap.size
theorem Gc.next {w wr wq : World} {p0 p1 : Value} (h : Gc w wr p0 p1) (hb : Below wr.heap.size wr wq) : Gc w wq p0 p1 :=
  have hz := h.z
  ⟨h.b.trans (hb.mono h.b.size), (hb.cell (p := ⟨w.heap.size, 0, none⟩) (by show w.heap.size < _; omega)).trans h.k0, (hb.cell (p := ⟨w.heap.size, 1, none⟩) (by show w.heap.size < _; omega)).trans h.k1,
    (hb.cell (p := ⟨w.heap.size + 1, 0, none⟩) hz).trans h.k2, (hb.cell (p := ⟨w.heap.size + 1, 1, none⟩) hz).trans h.k3,
    fun o => (hb.frozen (p := ⟨w.heap.size + 1, o, none⟩) hz).trans (h.f o), Nat.lt_of_lt_of_le hz hb.size⟩
theorem gc_new (w : World) (p0 p1 : Value) (T S : TypeId) : Gc w ((w.alloc (.cells #[p0, p1] T)).alloc (.cells #[.slice none 0 0, .slice none 0 0] S)) p0 p1 := by
  refine ⟨((Below.refl _ _).alloc (Nat.le_refl _) _).alloc (by simp) _, by simp, by simp, by simp, by simp, fun o => by simp, by simp⟩

set_option maxRecDepth 100000 in
set_option maxHeartbeats 8000000 in
theorem specExchangePlayers_any (m q : Value) (A B : List (List Int)) (w : World) (h1 : PM.Rows w m A) (h2 : PM.Rows w q B) :
    Calls Try.prog 47 #[.agg #[m, q]] w (OutG w (xchOut A B)) := by
  have hmx : Try.prog.follows .mixedOrders = true := by kernel_rfl
  have HIS := Lib.hid (fun (w' : World) (h : Below w.heap.size w w') => l07Is_any m q A B w' (h1.below h) (h2.below h))
  have H1 := Lib.hid h1
  have H2 := Lib.hid h2
  obtain ⟨a1, c1, rfl, _⟩ := h1
  obtain ⟨a2, c2, rfl, _⟩ := h2
  obtain ⟨W0, hW0⟩ : ∃ W0, W0 = (w.alloc (.cells #[.slice a1 A.length c1, .slice a2 B.length c2] 43)).alloc (.cells #[.slice none 0 0, .slice none 0 0] 43) := ⟨_, rfl⟩
  have hg0 : Gc w W0 (.slice a1 A.length c1) (.slice a2 B.length c2) := by rw [hW0]; exact gc_new _ _ _ _ _
  have HG0 := Lib.hid hg0
  have HW0 := Lib.hid hW0
  clear hg0 hW0
  cases hc : isGB A B
  · rw [xchOut_no hc]
    rw [hc] at HIS
    clear hc
    go_enter Try.func47, Try.ntmps47
    go_wp2_with fail
    rw [← HW0.out]
    refine (HIS.out _ HG0.out.b).mono ?_; rintro e w1 ⟨rfl, hb1⟩
    obtain ⟨hw1, k0, k1, k2, k3, f, hz1⟩ := HG0.out.next hb1
    clear hb1
    go_wp2_with fail
    refine bodyPost_ret (v := .tuple #[.agg #[.slice none 0 0, .slice none 0 0], .int .i64 1]) (by simp [*, results, Try.results47, go_sem]) rfl ?_
    exact outG_err (by (repeat' (first | (with_reducible exact Below.refl _ _) | (with_reducible assumption) | (with_reducible refine Below.alloc ?_ ?_ _) | (with_reducible refine Below.drew ?_) | (with_reducible refine below_drewN ?_ _) | (with_reducible refine Below.setCell ?_ ?_ _) | (with_reducible refine Below.trans ?_ (Below.mono (by with_reducible assumption) ?_)) | (with_reducible exact Below.size (by with_reducible assumption)) | go_size)))
  rw [hc] at HIS
  have hg := (isGB_iff A B).1 hc
  obtain ⟨k1, l1, n5, bk, al, bl, _, _⟩ := hg
  have HTB := Lib.hid (fun (w' : World) (h : Below w.heap.size w w') => l07Turn_any _ B A.length (gcols A) w' (H2.out.below h) bk k1 (by omega) l1 (by omega) bl)
  have HTA := Lib.hid (fun (w' : World) (h : Below w.heap.size w w') => l07Turn_any _ A A.length (gcols A) w' (H1.out.below h) rfl k1 (by omega) l1 (by omega) al)
  have HO := Lib.hid (xchOut_ok hc)
  have HX := Lib.hid (turnL_length B A.length (gcols A))
  have HY := Lib.hid (turnL_length A A.length (gcols A))
  generalize turnL B A.length (gcols A) = X at *
  generalize turnL A A.length (gcols A) = Y at *
  generalize xchOut A B = OUT at *
  clear hc k1 l1 n5 bk al bl
  go_enter Try.func47, Try.ntmps47
  go_wp2_with fail
  rw [← HW0.out]
  refine (HIS.out _ HG0.out.b).mono ?_; rintro e w1 ⟨rfl, hb1⟩
  obtain ⟨hw1, k0, k1, k2, k3, f, hz1⟩ := HG0.out.next hb1
  clear hb1 HIS HW0 HG0
  go_wp2_with fail
  rename_i K0 hK0
  refine (wpIn_wide (n := 8)).1 ?_
  have hz0 : w.heap.size < w1.heap.size := by omega
  refine PR.wpIn_region_inv hmx (by kernel_rfl) (fun listed ac w' =>
      ∃ (b0 b1 b2 b3 b4 b5 b6 b7 b8 : Bool) (gx1 : Nat) (cx1 : Nat) (gx2 : Nat) (cx2 : Nat) (us1 : List Value) (us2 : List Value), ((b1 = true → b0 = true) ∧ (b2 = true → b1 = true) ∧ (b4 = true → b3 = true) ∧ (b5 = true → b4 = true) ∧ (b6 = true → b2 = true ∧ b5 = true) ∧ (b7 = true → b6 = true) ∧ (b8 = true → b7 = true)) ∧ listed = #[b0, b1, b2, b3, b4, b5, b6, b7, b8] ∧
        ac = { tmps := #[.agg #[.slice a1 A.length c1, .slice a2 B.length c2], .pointer (some ⟨w.heap.size, 0, none⟩), .pointer (some ⟨w.heap.size + 1, 0, none⟩), .int .i64 0, .agg #[.slice a1 A.length c1, .slice a2 B.length c2], .bool true, .bool false, undef, cond b0 (.pointer (some ⟨w.heap.size, 1, none⟩)) undef, cond b1 (.slice a2 B.length c2) undef, cond b2 (.slice (some ⟨gx1, 0, none⟩) (gcols A) cx1) undef, cond b3 (.pointer (some ⟨w.heap.size, 0, none⟩)) undef, cond b4 (.slice a1 A.length c1) undef, cond b5 (.slice (some ⟨gx2, 0, none⟩) (gcols A) cx2) undef, cond b6 (.agg #[.slice (some ⟨gx1, 0, none⟩) (gcols A) cx1, .slice (some ⟨gx2, 0, none⟩) (gcols A) cx2]) undef], defers := [] } ∧ XtR w1 w' (w.heap.size + 1) X Y (.slice (some ⟨gx1, 0, none⟩) (gcols A) cx1) (.slice (some ⟨gx2, 0, none⟩) (gcols A) cx2) us1 us2 b2 b5 b7) ?_ ?_ ?_ ?_
  · rintro listed ac w' ⟨b0, b1, b2, b3, b4, b5, b6, b7, b8, gx1, cx1, gx2, cx2, us1, us2, _, rfl, _⟩
    rfl
  · rintro listed ac w' ⟨b0, b1, b2, b3, b4, b5, b6, b7, b8, gx1, cx1, gx2, cx2, us1, us2, _, rfl, rfl, hR⟩ hall
    have h0 := hall 0 (by simp)
    have h1 := hall 1 (by simp)
    have h2 := hall 2 (by simp)
    have h3 := hall 3 (by simp)
    have h4 := hall 4 (by simp)
    have h5 := hall 5 (by simp)
    have h6 := hall 6 (by simp)
    have h7 := hall 7 (by simp)
    have h8 := hall 8 (by simp)
    simp at h0 h1 h2 h3 h4 h5 h6 h7 h8
    subst h0 h1 h2 h3 h4 h5 h6 h7 h8
    clear hall
    refine hK0 _ _ ?_
    simp only [cond_true]
    obtain ⟨w0, hb0, hx1, hx2, rfl⟩ := hR.fin rfl
    have hap := hR.ap rfl rfl
    have t0 := (hb0.cell (p := ⟨w.heap.size + 1, 0, none⟩) hz1).trans k2
    have t1 := (hb0.cell (p := ⟨w.heap.size + 1, 1, none⟩) hz1).trans k3
    have hfin : ∀ (v : Value) (Z : List (List Int)) (us : List Value), OwnRs w1.heap.size w0 v Z us → OwnRs w.heap.size ((w0.setCell ⟨w.heap.size + 1, 0, none⟩ (.slice (some ⟨gx1, 0, none⟩) (gcols A) cx1)).setCell ⟨w.heap.size + 1, 1, none⟩ (.slice (some ⟨gx2, 0, none⟩) (gcols A) cx2)) v Z us := fun v Z us h =>
      (h.keepI (by simp) (fun b hb => by have := (h.inb hb).1; rw [Below.heap_setCell _ _ _ _ (by show b ≠ w.heap.size + 1; omega), Below.heap_setCell _ _ _ _ (by show b ≠ w.heap.size + 1; omega)])).mono hw1.size
    have HG := Lib.hid (rngG_two (hfin _ _ _ hx1) (hfin _ _ _ hx2) hap)
    have HL := Lib.hid (((hw1.trans (hb0.mono hw1.size)).setCell (p := ⟨w.heap.size + 1, 0, none⟩) (by show w.heap.size ≤ w.heap.size + 1; omega) (.slice (some ⟨gx1, 0, none⟩) (gcols A) cx1)).setCell (p := ⟨w.heap.size + 1, 1, none⟩) (by show w.heap.size ≤ w.heap.size + 1; omega) (.slice (some ⟨gx2, 0, none⟩) (gcols A) cx2))
    clear hR hx1 hx2 hap hfin hb0 k0 k1 k2 k3 f
    go_wp2_with fail
    refine bodyPost_ret (v := .tuple #[.agg #[.slice (some ⟨gx1, 0, none⟩) (gcols A) cx1, .slice (some ⟨gx2, 0, none⟩) (gcols A) cx2], .int .i64 0]) (by simp [*, results, Try.results47, go_sem]) rfl ?_
    rw [HO.out]
    exact ⟨(.slice (some ⟨gx1, 0, none⟩) (gcols A) cx1), (.slice (some ⟨gx2, 0, none⟩) (gcols A) cx2), (us1, us2), rfl, HG.out, HL.out⟩
  · exact ⟨false, false, false, false, false, false, false, false, false, 0, 0, 0, 0, [], [], by simp, rfl, rfl, ⟨fun _ => (Below.refl _ _).drew, fun e => (by cases e), fun e => (by cases e), fun e => (by cases e), fun e => (by cases e)⟩⟩
  · rintro listed ac w' i oi ⟨b0, b1, b2, b3, b4, b5, b6, b7, b8, gx1, cx1, gx2, cx2, us1, us2, ⟨e1, e2, e4, e5, e6, e7, e8⟩, rfl, rfl, hR⟩ ho hun hdep
    have hi : i < 9 := by simpa using (Array.getElem?_eq_some_iff.1 ho).1
    obtain rfl | rfl | rfl | rfl | rfl | rfl | rfl | rfl | rfl : i = 0 ∨ i = 1 ∨ i = 2 ∨ i = 3 ∨ i = 4 ∨ i = 5 ∨ i = 6 ∨ i = 7 ∨ i = 8 := by omega
    · -- 0
      simp only [List.getElem?_toArray, List.getElem?_cons_zero, Option.some.injEq] at ho
      subst ho
      have hbi : b0 = false := by simpa using hun
      subst hbi
      obtain rfl : b1 = false := Bool.eq_false_iff.2 (fun h => Bool.noConfusion (e1 h))
      obtain rfl : b2 = false := Bool.eq_false_iff.2 (fun h => Bool.noConfusion (e2 h))
      obtain rfl : b6 = false := Bool.eq_false_iff.2 (fun h => Bool.noConfusion (e6 h).1)
      obtain rfl : b7 = false := Bool.eq_false_iff.2 (fun h => Bool.noConfusion (e7 h))
      obtain rfl : b8 = false := Bool.eq_false_iff.2 (fun h => Bool.noConfusion (e8 h))
      refine wpOpIn_step rfl (fun K hK => ?_)
      clear hun hdep hi
      go_simp
      refine hK _ _ ⟨true, false, false, b3, b4, b5, false, false, false, gx1, cx1, gx2, cx2, us1, us2, ⟨fun h => Bool.noConfusion h, fun h => Bool.noConfusion h, e4, e5, fun h => Bool.noConfusion h, fun h => Bool.noConfusion h, fun h => Bool.noConfusion h⟩, rfl, rfl, hR⟩
    · -- 1
      simp only [List.getElem?_toArray, List.getElem?_cons_succ, List.getElem?_cons_zero, Option.some.injEq] at ho
      subst ho
      have hbi : b1 = false := by simpa using hun
      subst hbi
      have hd0 : b0 = true := by have := hdep ⟨0, .data⟩ (by simp) rfl; simpa using this
      subst hd0
      obtain rfl : b2 = false := Bool.eq_false_iff.2 (fun h => Bool.noConfusion (e2 h))
      obtain rfl : b6 = false := Bool.eq_false_iff.2 (fun h => Bool.noConfusion (e6 h).1)
      obtain rfl : b7 = false := Bool.eq_false_iff.2 (fun h => Bool.noConfusion (e7 h))
      obtain rfl : b8 = false := Bool.eq_false_iff.2 (fun h => Bool.noConfusion (e8 h))
      refine wpOpIn_step rfl (fun K hK => ?_)
      clear hun hdep hi
      have t0 := ((hR.low rfl).cell (p := ⟨w.heap.size, 1, none⟩) hz0).trans k1
      go_simp
      refine hK _ _ ⟨true, true, false, b3, b4, b5, false, false, false, gx1, cx1, gx2, cx2, us1, us2, ⟨fun _ => rfl, fun h => Bool.noConfusion h, e4, e5, fun h => Bool.noConfusion h, fun h => Bool.noConfusion h, fun h => Bool.noConfusion h⟩, rfl, rfl, hR⟩
    · -- 2
      simp only [List.getElem?_toArray, List.getElem?_cons_succ, List.getElem?_cons_zero, Option.some.injEq] at ho
      subst ho
      have hbi : b2 = false := by simpa using hun
      subst hbi
      have hd1 : b1 = true := by have := hdep ⟨1, .data⟩ (by simp) rfl; simpa using this
      have hd0 : b0 = true := (e1 hd1)
      subst hd0 hd1
      obtain rfl : b6 = false := Bool.eq_false_iff.2 (fun h => Bool.noConfusion (e6 h).1)
      obtain rfl : b7 = false := Bool.eq_false_iff.2 (fun h => Bool.noConfusion (e7 h))
      obtain rfl : b8 = false := Bool.eq_false_iff.2 (fun h => Bool.noConfusion (e8 h))
      refine wpOpIn_step rfl (fun K hK => ?_)
      clear hun hdep hi
      go_simp
      refine ⟨trivial, (callsIn_wide.2 (HTB.out w' (hw1.trans ((hR.low rfl).mono hw1.size)))).mono ?_⟩
      rintro e w'' ⟨yg, yc, yus, rfl, hF, hb⟩
      refine hK _ _ ⟨true, true, true, b3, b4, b5, false, false, false, yg, yc, gx2, cx2, yus, us2, ⟨fun _ => rfl, fun _ => rfl, e4, e5, fun h => Bool.noConfusion h, fun h => Bool.noConfusion h, fun h => Bool.noConfusion h⟩, rfl, rfl, hR.call1 hF hb⟩
    · -- 3
      simp only [List.getElem?_toArray, List.getElem?_cons_succ, List.getElem?_cons_zero, Option.some.injEq] at ho
      subst ho
      have hbi : b3 = false := by simpa using hun
      subst hbi
      obtain rfl : b4 = false := Bool.eq_false_iff.2 (fun h => Bool.noConfusion (e4 h))
      obtain rfl : b5 = false := Bool.eq_false_iff.2 (fun h => Bool.noConfusion (e5 h))
      obtain rfl : b6 = false := Bool.eq_false_iff.2 (fun h => Bool.noConfusion (e6 h).2)
      obtain rfl : b7 = false := Bool.eq_false_iff.2 (fun h => Bool.noConfusion (e7 h))
      obtain rfl : b8 = false := Bool.eq_false_iff.2 (fun h => Bool.noConfusion (e8 h))
      refine wpOpIn_step rfl (fun K hK => ?_)
      clear hun hdep hi
      go_simp
      refine hK _ _ ⟨b0, b1, b2, true, false, false, false, false, false, gx1, cx1, gx2, cx2, us1, us2, ⟨e1, e2, fun h => Bool.noConfusion h, fun h => Bool.noConfusion h, fun h => Bool.noConfusion h, fun h => Bool.noConfusion h, fun h => Bool.noConfusion h⟩, rfl, rfl, hR⟩
    · -- 4
      simp only [List.getElem?_toArray, List.getElem?_cons_succ, List.getElem?_cons_zero, Option.some.injEq] at ho
      subst ho
      have hbi : b4 = false := by simpa using hun
      subst hbi
      have hd3 : b3 = true := by have := hdep ⟨3, .data⟩ (by simp) rfl; simpa using this
      subst hd3
      obtain rfl : b5 = false := Bool.eq_false_iff.2 (fun h => Bool.noConfusion (e5 h))
      obtain rfl : b6 = false := Bool.eq_false_iff.2 (fun h => Bool.noConfusion (e6 h).2)
      obtain rfl : b7 = false := Bool.eq_false_iff.2 (fun h => Bool.noConfusion (e7 h))
      obtain rfl : b8 = false := Bool.eq_false_iff.2 (fun h => Bool.noConfusion (e8 h))
      refine wpOpIn_step rfl (fun K hK => ?_)
      clear hun hdep hi
      have t0 := ((hR.low rfl).cell (p := ⟨w.heap.size, 0, none⟩) hz0).trans k0
      go_simp
      refine hK _ _ ⟨b0, b1, b2, true, true, false, false, false, false, gx1, cx1, gx2, cx2, us1, us2, ⟨e1, e2, fun _ => rfl, fun h => Bool.noConfusion h, fun h => Bool.noConfusion h, fun h => Bool.noConfusion h, fun h => Bool.noConfusion h⟩, rfl, rfl, hR⟩
    · -- 5
      simp only [List.getElem?_toArray, List.getElem?_cons_succ, List.getElem?_cons_zero, Option.some.injEq] at ho
      subst ho
      have hbi : b5 = false := by simpa using hun
      subst hbi
      have hd4 : b4 = true := by have := hdep ⟨4, .data⟩ (by simp) rfl; simpa using this
      have hd3 : b3 = true := (e4 hd4)
      subst hd3 hd4
      obtain rfl : b6 = false := Bool.eq_false_iff.2 (fun h => Bool.noConfusion (e6 h).2)
      obtain rfl : b7 = false := Bool.eq_false_iff.2 (fun h => Bool.noConfusion (e7 h))
      obtain rfl : b8 = false := Bool.eq_false_iff.2 (fun h => Bool.noConfusion (e8 h))
      refine wpOpIn_step rfl (fun K hK => ?_)
      clear hun hdep hi
      go_simp
      refine ⟨trivial, (callsIn_wide.2 (HTA.out w' (hw1.trans ((hR.low rfl).mono hw1.size)))).mono ?_⟩
      rintro e w'' ⟨yg, yc, yus, rfl, hF, hb⟩
      refine hK _ _ ⟨b0, b1, b2, true, true, true, false, false, false, gx1, cx1, yg, yc, us1, yus, ⟨e1, e2, fun _ => rfl, fun _ => rfl, fun h => Bool.noConfusion h, fun h => Bool.noConfusion h, fun h => Bool.noConfusion h⟩, rfl, rfl, hR.call2 hF hb⟩
    · -- 6
      simp only [List.getElem?_toArray, List.getElem?_cons_succ, List.getElem?_cons_zero, Option.some.injEq] at ho
      subst ho
      have hbi : b6 = false := by simpa using hun
      subst hbi
      have hd2 : b2 = true := by have := hdep ⟨2, .data⟩ (by simp) rfl; simpa using this
      have hd5 : b5 = true := by have := hdep ⟨5, .data⟩ (by simp) rfl; simpa using this
      have hd4 : b4 = true := (e5 hd5)
      have hd3 : b3 = true := (e4 hd4)
      have hd1 : b1 = true := (e2 hd2)
      have hd0 : b0 = true := (e1 hd1)
      subst hd0 hd1 hd2 hd3 hd4 hd5
      obtain rfl : b7 = false := Bool.eq_false_iff.2 (fun h => Bool.noConfusion (e7 h))
      obtain rfl : b8 = false := Bool.eq_false_iff.2 (fun h => Bool.noConfusion (e8 h))
      refine wpOpIn_step rfl (fun K hK => ?_)
      clear hun hdep hi
      go_simp
      refine hK _ _ ⟨true, true, true, true, true, true, true, false, false, gx1, cx1, gx2, cx2, us1, us2, ⟨fun _ => rfl, fun _ => rfl, fun _ => rfl, fun _ => rfl, fun _ => ⟨rfl, rfl⟩, fun h => Bool.noConfusion h, fun h => Bool.noConfusion h⟩, rfl, rfl, hR⟩
    · -- 7
      simp only [List.getElem?_toArray, List.getElem?_cons_succ, List.getElem?_cons_zero, Option.some.injEq] at ho
      subst ho
      have hbi : b7 = false := by simpa using hun
      subst hbi
      have hd6 : b6 = true := by have := hdep ⟨6, .data⟩ (by simp) rfl; simpa using this
      have hd5 : b5 = true := (e6 hd6).2
      have hd4 : b4 = true := (e5 hd5)
      have hd3 : b3 = true := (e4 hd4)
      have hd2 : b2 = true := (e6 hd6).1
      have hd1 : b1 = true := (e2 hd2)
      have hd0 : b0 = true := (e1 hd1)
      subst hd0 hd1 hd2 hd3 hd4 hd5 hd6
      obtain rfl : b8 = false := Bool.eq_false_iff.2 (fun h => Bool.noConfusion (e8 h))
      refine wpOpIn_step rfl (fun K hK => ?_)
      clear hun hdep hi
      have t0 := ((hR.low rfl).cell (p := ⟨w.heap.size + 1, 0, none⟩) hz1).trans k2
      have t1 := ((hR.low rfl).cell (p := ⟨w.heap.size + 1, 1, none⟩) hz1).trans k3
      have t2 := fun o => ((hR.low rfl).frozen (p := ⟨w.heap.size + 1, o, none⟩) hz1).trans (f o)
      go_simp
      refine hK _ _ ⟨true, true, true, true, true, true, true, true, false, gx1, cx1, gx2, cx2, us1, us2, ⟨fun _ => rfl, fun _ => rfl, fun _ => rfl, fun _ => rfl, fun _ => ⟨rfl, rfl⟩, fun _ => rfl, fun h => Bool.noConfusion h⟩, rfl, rfl, hR.store_⟩
    · -- 8
      simp only [List.getElem?_toArray, List.getElem?_cons_succ, List.getElem?_cons_zero, Option.some.injEq] at ho
      subst ho
      have hbi : b8 = false := by simpa using hun
      subst hbi
      have hd7 : b7 = true := by have := hdep ⟨7, .chain⟩ (by simp) rfl; simpa using this
      have hd6 : b6 = true := (e7 hd7)
      have hd5 : b5 = true := (e6 hd6).2
      have hd4 : b4 = true := (e5 hd5)
      have hd3 : b3 = true := (e4 hd4)
      have hd2 : b2 = true := (e6 hd6).1
      have hd1 : b1 = true := (e2 hd2)
      have hd0 : b0 = true := (e1 hd1)
      subst hd0 hd1 hd2 hd3 hd4 hd5 hd6 hd7
      refine wpOpIn_step rfl (fun K hK => ?_)
      clear hun hdep hi
      go_simp
      refine hK _ _ ⟨true, true, true, true, true, true, true, true, true, gx1, cx1, gx2, cx2, us1, us2, ⟨fun _ => rfl, fun _ => rfl, fun _ => rfl, fun _ => rfl, fun _ => ⟨rfl, rfl⟩, fun _ => rfl, fun _ => rfl⟩, rfl, rfl, hR⟩
theorem twG_new (w : World) (T : TypeId) : TwG w.heap.size (w.alloc (.cells #[.slice none 0 0, .slice none 0 0] T)) w.heap.size 0 1 (.slice none 0 0) (.slice none 0 0) [] [] [] [] := by
  have hn : ∀ b, ¬ inB (.slice none 0 0) [] 0 b := fun b hb => by
    rcases hb with hb | ⟨i, hi, _⟩
    · simp [Value.ownBlock] at hb
    · exact absurd hi (Nat.not_lt_zero _)
  exact ⟨ownRs_nil _ _, ownRs_nil _ _, fun b hb _ => hn b hb, by simp, by simp, fun o => by simp, by simp, hn _, hn _, Nat.le_refl _, by decide⟩

set_option maxRecDepth 100000 in
set_option maxHeartbeats 8000000 in
theorem implExchangePlayers_any (m q : Value) (A B : List (List Int)) (w : World) (h1 : PM.Rows w m A) (h2 : PM.Rows w q B) (hs : tot A ≤ 1048576) :
    Calls Try.prog 48 #[.agg #[m, q]] w (OutG w (xchOut A B)) := by
  have hmx : Try.prog.follows .mixedOrders = true := by kernel_rfl
  have HIS := Lib.hid (fun (w' : World) (h : Below w.heap.size w w') => implIsGame_any m q A B w' (h1.below h) (h2.below h) hs)
  have H1 := Lib.hid h1
  have H2 := Lib.hid h2
  clear hs
  cases hc : isGB A B
  · obtain ⟨a1, c1, rfl, _⟩ := h1
    obtain ⟨a2, c2, rfl, _⟩ := h2
    obtain ⟨W0, hW0⟩ : ∃ W0, W0 = (w.alloc (.cells #[.slice a1 A.length c1, .slice a2 B.length c2] 43)).alloc (.cells #[.slice none 0 0, .slice none 0 0] 43) := ⟨_, rfl⟩
    have hg0 : Gc w W0 (.slice a1 A.length c1) (.slice a2 B.length c2) := by rw [hW0]; exact gc_new _ _ _ _ _
    have HG0 := Lib.hid hg0
    have HW0 := Lib.hid hW0
    clear hg0 hW0
    rw [xchOut_no hc]
    rw [hc] at HIS
    clear hc
    go_enter Try.func48, Try.ntmps48
    go_wp2_with fail
    rw [← HW0.out]
    refine (HIS.out _ HG0.out.b).mono ?_; rintro e w1 ⟨rfl, hb1⟩
    obtain ⟨hw1, k0, k1, k2, k3, f, hz1⟩ := HG0.out.next hb1
    clear hb1
    go_wp2_with fail
    refine bodyPost_ret (v := .tuple #[.agg #[.slice none 0 0, .slice none 0 0], .int .i64 1]) (by simp [*, results, Try.results48, go_sem]) rfl ?_
    exact outG_err (by (repeat' (first | (with_reducible exact Below.refl _ _) | (with_reducible assumption) | (with_reducible refine Below.alloc ?_ ?_ _) | (with_reducible refine Below.drew ?_) | (with_reducible refine below_drewN ?_ _) | (with_reducible refine Below.setCell ?_ ?_ _) | (with_reducible refine Below.trans ?_ (Below.mono (by with_reducible assumption) ?_)) | (with_reducible exact Below.size (by with_reducible assumption)) | go_size)))
  rw [hc] at HIS
  have hg := (isGB_iff A B).1 hc
  obtain ⟨k1, l1, n5, bk, al, bl, _, _⟩ := hg
  have hk5 : A.length ≤ 5 := by omega
  have hl5 : gcols A ≤ 5 := by omega
  obtain ⟨b, off, c, rfl, hA⟩ := tab_at h1 k1 l1 al
  obtain ⟨a2, c2, rfl, _⟩ := h2
  have HA := Lib.hid (fun wr hw => hA wr hw 0 (by omega))
  have HCB := Lib.hid (fun (j : Nat) (hj : j < gcols A) (w' : World) (h : Below w.heap.size w w') => columnAt_any _ B A.length (gcols A) j w' (H2.out.below h) bk k1 hk5 l1 hl5 bl hj)
  have HCA := Lib.hid (fun (j : Nat) (hj : j < gcols A) (w' : World) (h : Below w.heap.size w w') => columnAt_any _ A A.length (gcols A) j w' (H1.out.below h) rfl k1 hk5 l1 hl5 al hj)
  have HO := Lib.hid (xchOut_ok hc)
  generalize xchOut A B = OUT at *
  obtain ⟨i0, hi', hzz0, hzz1, hzz2⟩ := info_parts info_ints
  obtain ⟨W0, hW0⟩ : ∃ W0, W0 = (w.alloc (.cells #[.slice (some ⟨b, off, none⟩) A.length c, .slice a2 B.length c2] 43)).alloc (.cells #[.slice none 0 0, .slice none 0 0] 43) := ⟨_, rfl⟩
  have hg0 : Gc w W0 (.slice (some ⟨b, off, none⟩) A.length c) (.slice a2 B.length c2) := by rw [hW0]; exact gc_new _ _ _ _ _
  have HG0 := Lib.hid hg0
  have HW0 := Lib.hid hW0
  clear hg0 hW0 hc n5 bk al bl hA h1
  go_enter Try.func48, Try.ntmps48
  go_wp2_with fail
  rw [← HW0.out]
  refine (HIS.out _ HG0.out.b).mono ?_; rintro e w1 ⟨rfl, hb1⟩
  have hg1 := HG0.out.next hb1
  have HG1 := Lib.hid hg1
  obtain ⟨hw1, e0, e1, _, _, _, hz1⟩ := hg1
  obtain ⟨r9, ro9, rd9, t9, _⟩ := HA.out w1 hw1
  simp only [Nat.add_zero] at t9
  clear hb1 HIS HW0 HG0
  have hbl : b < w1.heap.size := World.block_lt_of_cell? w1 _ t9
  have hz0 : w.heap.size < w1.heap.size := by omega
  have hn1 : b ≠ w1.heap.size := by omega
  have hn2 : w.heap.size ≠ w1.heap.size := by omega
  have HT := Lib.hid (twG_new w1 43)
  have hB0 : Below w1.heap.size w1 (w1.alloc (.cells #[.slice none 0 0, .slice none 0 0] 43)) := (Below.refl _ _).alloc (Nat.le_refl _) _
  go_wp2_with fail
  obtain ⟨N, hN⟩ : ∃ N, N = w1.heap.size := ⟨_, rfl⟩
  rw [← hN]
  rw [← hN] at HT
  have hNw : N ≤ w1.heap.size := by omega
  have hwN : w1.heap.size ≤ N := by omega
  have HNN := Lib.hid hN
  clear hN t9 e0 e1
  go_loopw [5, 15] (fun _ i wr => ∃ (n : Nat) (v q : Value) (us vs : List Value), n ≤ gcols A ∧ i = .int .i64 n ∧ TwG N wr N 0 1 v q (turnL B A.length n) (turnL A A.length n) us vs ∧ Below w1.heap.size w1 wr) (fun _ i _ => gcols A - (intOf i).toNat)
  case atStart => exact ⟨0, _, _, _, _, Nat.zero_le _, rfl, HT.out, hB0⟩
  case round =>
    obtain ⟨n, v, q, us, vs, hn, rfl, hT, hB⟩ := hrel
    by_cases hlt : n < gcols A
    · obtain ⟨W, rfl⟩ : ∃ W, W = wr := ⟨_, rfl⟩
      have HTW := Lib.hid hT
      have HBW := Lib.hid hB
      have hg2 := HG1.out.next hB
      obtain ⟨hw2, p0, p1, _, _, _, hz2⟩ := hg2
      have hzw : w.heap.size < W.heap.size := by omega
      have HCBn := Lib.hid (HCB.out n hlt)
      have HCAn := Lib.hid (HCA.out n hlt)
      have hX := turnL_length B A.length n
      have hY := turnL_length A A.length n
      have HXL := Lib.hid hX
      have HYL := Lib.hid hY
      clear hT hB hX hY
      go_wp2_with fail
      rename_i K0 hK0
      refine (wpIn_wide (n := 8)).1 ?_
      refine PR.wpIn_region_inv hmx (by kernel_rfl) (fun listed ac w' =>
          ∃ (b0 b1 b2 b3 b4 b5 b6 b7 b8 b9 : Bool) (v' : Value) (gq : Nat) (hb : Nat), ((b1 = true → b0 = true) ∧ (b3 = true → b2 = true) ∧ (b5 = true → b3 = true ∧ b4 = true) ∧ (b6 = true → b5 = true) ∧ (b7 = true → b1 = true ∧ b6 = true) ∧ (b9 = true → b7 = true ∧ b8 = true)) ∧ listed = #[b0, b1, b2, b3, b4, b5, b6, b7, b8, b9] ∧
            ac = { tmps := #[.agg #[.slice (some ⟨b, off, none⟩) A.length c, .slice a2 B.length c2], .pointer (some ⟨w.heap.size, 0, none⟩), .pointer (some ⟨w.heap.size + 1, 0, none⟩), .int .i64 0, .pointer (some ⟨N, 0, none⟩), .int .i64 n, .agg #[.slice (some ⟨b, off, none⟩) A.length c, .slice a2 B.length c2], .bool true, .bool false, undef, .pointer (some ⟨w.heap.size, 0, none⟩), .slice (some ⟨b, off, none⟩) A.length c, .pointer (some ⟨b, off, none⟩), .slice (some ⟨r9, ro9, none⟩) (gcols A) rd9, .int .i64 (gcols A), .int .i64 n, .bool true, .int .i64 n, cond b0 (.pointer (some ⟨N, 0, none⟩)) (u18), cond b1 (v) (u19), cond b2 (.pointer (some ⟨w.heap.size, 1, none⟩)) (u20), cond b3 (.slice a2 B.length c2) (u21), cond b4 (.int .i64 n) (u22), cond b5 (.slice (some ⟨gq, 0, none⟩) A.length A.length) (u23), cond b6 (.slice (some ⟨hb, 0, none⟩) 1 1) (u24), cond b7 (v') (u25), cond b8 (.pointer (some ⟨N, 0, none⟩)) (u26), u27, u28, u29, u30, u31, u32, u33, u34, u35, u36, undef], defers := [] } ∧ XgR w1 W w' N N 0 1 A.length n v q (turnL B A.length n) (turnL A A.length n) (colL B A.length n) us vs v' gq hb b5 b6 b7 b9) ?_ ?_ ?_ ?_
      · rintro listed ac w' ⟨b0, b1, b2, b3, b4, b5, b6, b7, b8, b9, v', gq, hb, _, rfl, _⟩
        rfl
      · rintro listed ac w' ⟨b0, b1, b2, b3, b4, b5, b6, b7, b8, b9, v', gq, hb, _, rfl, rfl, hR⟩ hall
        have h0 := hall 0 (by simp)
        have h1 := hall 1 (by simp)
        have h2 := hall 2 (by simp)
        have h3 := hall 3 (by simp)
        have h4 := hall 4 (by simp)
        have h5 := hall 5 (by simp)
        have h6 := hall 6 (by simp)
        have h7 := hall 7 (by simp)
        have h8 := hall 8 (by simp)
        have h9 := hall 9 (by simp)
        simp at h0 h1 h2 h3 h4 h5 h6 h7 h8 h9
        subst h0 h1 h2 h3 h4 h5 h6 h7 h8 h9
        clear hall
        refine hK0 _ _ ?_
        simp only [cond_true]
        obtain ⟨hT7, hL7⟩ := hR.fin rfl
        obtain ⟨W7, rfl⟩ : ∃ W7, W7 = w' := ⟨_, rfl⟩
        rw [← turnL_snoc] at hT7
        obtain ⟨us7, hT7⟩ : ∃ us7, TwG N W7 N 0 1 v' q (turnL B A.length (n + 1)) (turnL A A.length n) us7 vs := ⟨_, hT7⟩
        have HT7 := Lib.hid hT7.swap
        have HB7 := Lib.hid (hL7.mono hwN)
        obtain ⟨hw7, p07, j1, j2, j3, j4, hz7⟩ := HG1.out.next HB7.out
        clear j1 j2 j3 j4
        have hzw7 : w.heap.size < W7.heap.size := by omega
        clear hR hT7 hL7 HTW HBW p0 p1 hw2 hz2 hzw
        go_wp2_with fail
        rename_i K1 hK1 hq1
        refine (wpIn_wide (n := 8)).1 ?_
        refine PR.wpIn_region_inv hmx (by kernel_rfl) (fun listed ac w' =>
            ∃ (b0 b1 b2 b3 b4 b5 b6 b7 b8 b9 : Bool) (v2' : Value) (gq2 : Nat) (hb2 : Nat), ((b1 = true → b0 = true) ∧ (b3 = true → b2 = true) ∧ (b5 = true → b3 = true ∧ b4 = true) ∧ (b6 = true → b5 = true) ∧ (b7 = true → b1 = true ∧ b6 = true) ∧ (b9 = true → b7 = true ∧ b8 = true)) ∧ listed = #[b0, b1, b2, b3, b4, b5, b6, b7, b8, b9] ∧
              ac = { tmps := #[.agg #[.slice (some ⟨b, off, none⟩) A.length c, .slice a2 B.length c2], .pointer (some ⟨w.heap.size, 0, none⟩), .pointer (some ⟨w.heap.size + 1, 0, none⟩), .int .i64 0, .pointer (some ⟨N, 0, none⟩), .int .i64 n, .agg #[.slice (some ⟨b, off, none⟩) A.length c, .slice a2 B.length c2], .bool true, .bool false, undef, .pointer (some ⟨w.heap.size, 0, none⟩), .slice (some ⟨b, off, none⟩) A.length c, .pointer (some ⟨b, off, none⟩), .slice (some ⟨r9, ro9, none⟩) (gcols A) rd9, .int .i64 (gcols A), .int .i64 n, .bool true, .int .i64 n, .pointer (some ⟨N, 0, none⟩), v, .pointer (some ⟨w.heap.size, 1, none⟩), .slice a2 B.length c2, .int .i64 n, .slice (some ⟨gq, 0, none⟩) A.length A.length, .slice (some ⟨hb, 0, none⟩) 1 1, v', .pointer (some ⟨N, 0, none⟩), cond b0 (.pointer (some ⟨N, 1, none⟩)) (u27), cond b1 (q) (u28), cond b2 (.pointer (some ⟨w.heap.size, 0, none⟩)) (u29), cond b3 (.slice (some ⟨b, off, none⟩) A.length c) (u30), cond b4 (.int .i64 n) (u31), cond b5 (.slice (some ⟨gq2, 0, none⟩) A.length A.length) (u32), cond b6 (.slice (some ⟨hb2, 0, none⟩) 1 1) (u33), cond b7 (v2') (u34), cond b8 (.pointer (some ⟨N, 1, none⟩)) (u35), u36, undef], defers := [] } ∧ XgR w1 W7 w' N N 1 0 A.length n q v' (turnL A A.length n) (turnL B A.length (n + 1)) (colL A A.length n) vs us7 v2' gq2 hb2 b5 b6 b7 b9) ?_ ?_ ?_ ?_
        · rintro listed ac w' ⟨b0, b1, b2, b3, b4, b5, b6, b7, b8, b9, v2', gq2, hb2, _, rfl, _⟩
          rfl
        · rintro listed ac w' ⟨b0, b1, b2, b3, b4, b5, b6, b7, b8, b9, v2', gq2, hb2, _, rfl, rfl, hR⟩ hall
          have h0 := hall 0 (by simp)
          have h1 := hall 1 (by simp)
          have h2 := hall 2 (by simp)
          have h3 := hall 3 (by simp)
          have h4 := hall 4 (by simp)
          have h5 := hall 5 (by simp)
          have h6 := hall 6 (by simp)
          have h7 := hall 7 (by simp)
          have h8 := hall 8 (by simp)
          have h9 := hall 9 (by simp)
          simp at h0 h1 h2 h3 h4 h5 h6 h7 h8 h9
          subst h0 h1 h2 h3 h4 h5 h6 h7 h8 h9
          clear hall
          refine hK1 _ _ ?_
          simp only [cond_true]
          obtain ⟨hT8, hL8⟩ := hR.fin rfl
          rw [← turnL_snoc] at hT8
          have HT8 := Lib.hid hT8.swap
          have HB8 := Lib.hid (hL8.mono hwN)
          clear hR hT8 hL8
          go_wp2_with fail
          go_roundw
          case rel => exact ⟨n + 1, _, _, _, _, by omega, by go_num, HT8.out, HB8.out⟩
          case measure => simp [intOf]; omega
        · exact ⟨false, false, false, false, false, false, false, false, false, false, undef, 0, 0, by simp, rfl, rfl, ⟨fun _ => (Below.refl _ _).drew, fun e => (by cases e), fun e => (by cases e), fun e => (by cases e), fun e => (by cases e)⟩⟩
        · rintro listed ac w' i oi ⟨b0, b1, b2, b3, b4, b5, b6, b7, b8, b9, v2', gq2, hb2, ⟨e1, e3, e5, e6, e7, e9⟩, rfl, rfl, hR⟩ ho hun hdep
          have hi : i < 10 := by simpa using (Array.getElem?_eq_some_iff.1 ho).1
          obtain rfl | rfl | rfl | rfl | rfl | rfl | rfl | rfl | rfl | rfl : i = 0 ∨ i = 1 ∨ i = 2 ∨ i = 3 ∨ i = 4 ∨ i = 5 ∨ i = 6 ∨ i = 7 ∨ i = 8 ∨ i = 9 := by omega
          · -- 0
            simp only [List.getElem?_toArray, List.getElem?_cons_zero, Option.some.injEq] at ho
            subst ho
            have hbi : b0 = false := by simpa using hun
            subst hbi
            obtain rfl : b1 = false := Bool.eq_false_iff.2 (fun h => Bool.noConfusion (e1 h))
            obtain rfl : b7 = false := Bool.eq_false_iff.2 (fun h => Bool.noConfusion (e7 h).1)
            obtain rfl : b9 = false := Bool.eq_false_iff.2 (fun h => Bool.noConfusion (e9 h).1)
            refine wpOpIn_step rfl (fun K hK => ?_)
            clear hun hdep hi
            go_simp
            refine hK _ _ ⟨true, false, b2, b3, b4, b5, b6, false, b8, false, v2', gq2, hb2, ⟨fun h => Bool.noConfusion h, e3, e5, e6, fun h => Bool.noConfusion h, fun h => Bool.noConfusion h⟩, rfl, rfl, hR⟩
          · -- 1
            simp only [List.getElem?_toArray, List.getElem?_cons_succ, List.getElem?_cons_zero, Option.some.injEq] at ho
            subst ho
            have hbi : b1 = false := by simpa using hun
            subst hbi
            have hd0 : b0 = true := by have := hdep ⟨0, .data⟩ (by simp) rfl; simpa using this
            subst hd0
            obtain rfl : b7 = false := Bool.eq_false_iff.2 (fun h => Bool.noConfusion (e7 h).1)
            obtain rfl : b9 = false := Bool.eq_false_iff.2 (fun h => Bool.noConfusion (e9 h).1)
            refine wpOpIn_step rfl (fun K hK => ?_)
            clear hun hdep hi
            have t0 := ((hR.low rfl).cell (p := ⟨N, 1, none⟩) HT7.out.lt).trans HT7.out.c1
            go_simp
            refine hK _ _ ⟨true, true, b2, b3, b4, b5, b6, false, b8, false, v2', gq2, hb2, ⟨fun _ => rfl, e3, e5, e6, fun h => Bool.noConfusion h, fun h => Bool.noConfusion h⟩, rfl, rfl, hR⟩
          · -- 2
            simp only [List.getElem?_toArray, List.getElem?_cons_succ, List.getElem?_cons_zero, Option.some.injEq] at ho
            subst ho
            have hbi : b2 = false := by simpa using hun
            subst hbi
            obtain rfl : b3 = false := Bool.eq_false_iff.2 (fun h => Bool.noConfusion (e3 h))
            obtain rfl : b5 = false := Bool.eq_false_iff.2 (fun h => Bool.noConfusion (e5 h).1)
            obtain rfl : b6 = false := Bool.eq_false_iff.2 (fun h => Bool.noConfusion (e6 h))
            obtain rfl : b7 = false := Bool.eq_false_iff.2 (fun h => Bool.noConfusion (e7 h).2)
            obtain rfl : b9 = false := Bool.eq_false_iff.2 (fun h => Bool.noConfusion (e9 h).1)
            refine wpOpIn_step rfl (fun K hK => ?_)
            clear hun hdep hi
            go_simp
            refine hK _ _ ⟨b0, b1, true, false, b4, false, false, false, b8, false, v2', gq2, hb2, ⟨e1, fun h => Bool.noConfusion h, fun h => Bool.noConfusion h, fun h => Bool.noConfusion h, fun h => Bool.noConfusion h, fun h => Bool.noConfusion h⟩, rfl, rfl, hR⟩
          · -- 3
            simp only [List.getElem?_toArray, List.getElem?_cons_succ, List.getElem?_cons_zero, Option.some.injEq] at ho
            subst ho
            have hbi : b3 = false := by simpa using hun
            subst hbi
            have hd2 : b2 = true := by have := hdep ⟨2, .data⟩ (by simp) rfl; simpa using this
            subst hd2
            obtain rfl : b5 = false := Bool.eq_false_iff.2 (fun h => Bool.noConfusion (e5 h).1)
            obtain rfl : b6 = false := Bool.eq_false_iff.2 (fun h => Bool.noConfusion (e6 h))
            obtain rfl : b7 = false := Bool.eq_false_iff.2 (fun h => Bool.noConfusion (e7 h).2)
            obtain rfl : b9 = false := Bool.eq_false_iff.2 (fun h => Bool.noConfusion (e9 h).1)
            refine wpOpIn_step rfl (fun K hK => ?_)
            clear hun hdep hi
            have t0 := ((hR.low rfl).cell (p := ⟨w.heap.size, 0, none⟩) hzw7).trans p07
            go_simp
            refine hK _ _ ⟨b0, b1, true, true, b4, false, false, false, b8, false, v2', gq2, hb2, ⟨e1, fun _ => rfl, fun h => Bool.noConfusion h, fun h => Bool.noConfusion h, fun h => Bool.noConfusion h, fun h => Bool.noConfusion h⟩, rfl, rfl, hR⟩
          · -- 4
            simp only [List.getElem?_toArray, List.getElem?_cons_succ, List.getElem?_cons_zero, Option.some.injEq] at ho
            subst ho
            have hbi : b4 = false := by simpa using hun
            subst hbi
            obtain rfl : b5 = false := Bool.eq_false_iff.2 (fun h => Bool.noConfusion (e5 h).2)
            obtain rfl : b6 = false := Bool.eq_false_iff.2 (fun h => Bool.noConfusion (e6 h))
            obtain rfl : b7 = false := Bool.eq_false_iff.2 (fun h => Bool.noConfusion (e7 h).2)
            obtain rfl : b9 = false := Bool.eq_false_iff.2 (fun h => Bool.noConfusion (e9 h).1)
            refine wpOpIn_step rfl (fun K hK => ?_)
            clear hun hdep hi
            go_simp
            refine hK _ _ ⟨b0, b1, b2, b3, true, false, false, false, b8, false, v2', gq2, hb2, ⟨e1, e3, fun h => Bool.noConfusion h, fun h => Bool.noConfusion h, fun h => Bool.noConfusion h, fun h => Bool.noConfusion h⟩, rfl, rfl, hR⟩
          · -- 5
            simp only [List.getElem?_toArray, List.getElem?_cons_succ, List.getElem?_cons_zero, Option.some.injEq] at ho
            subst ho
            have hbi : b5 = false := by simpa using hun
            subst hbi
            have hd3 : b3 = true := by have := hdep ⟨3, .data⟩ (by simp) rfl; simpa using this
            have hd4 : b4 = true := by have := hdep ⟨4, .data⟩ (by simp) rfl; simpa using this
            have hd2 : b2 = true := (e3 hd3)
            subst hd2 hd3 hd4
            obtain rfl : b6 = false := Bool.eq_false_iff.2 (fun h => Bool.noConfusion (e6 h))
            obtain rfl : b7 = false := Bool.eq_false_iff.2 (fun h => Bool.noConfusion (e7 h).2)
            obtain rfl : b9 = false := Bool.eq_false_iff.2 (fun h => Bool.noConfusion (e9 h).1)
            refine wpOpIn_step rfl (fun K hK => ?_)
            clear hun hdep hi
            go_simp
            refine ⟨trivial, (callsIn_wide.2 (HCAn.out w' (hw7.trans ((hR.low rfl).mono hw7.size)))).mono ?_⟩
            rintro e w'' ⟨yg, rfl, hF, hb'⟩
            refine hK _ _ ⟨b0, b1, true, true, true, true, false, false, b8, false, v2', yg, hb2, ⟨e1, fun _ => rfl, fun _ => ⟨rfl, rfl⟩, fun h => Bool.noConfusion h, fun h => Bool.noConfusion h, fun h => Bool.noConfusion h⟩, rfl, rfl, hR.call hF hb'⟩
          · -- 6
            simp only [List.getElem?_toArray, List.getElem?_cons_succ, List.getElem?_cons_zero, Option.some.injEq] at ho
            subst ho
            have hbi : b6 = false := by simpa using hun
            subst hbi
            have hd5 : b5 = true := by have := hdep ⟨5, .data⟩ (by simp) rfl; simpa using this
            have hd4 : b4 = true := (e5 hd5).2
            have hd3 : b3 = true := (e5 hd5).1
            have hd2 : b2 = true := (e3 hd3)
            subst hd2 hd3 hd4 hd5
            obtain rfl : b7 = false := Bool.eq_false_iff.2 (fun h => Bool.noConfusion (e7 h).2)
            obtain rfl : b9 = false := Bool.eq_false_iff.2 (fun h => Bool.noConfusion (e9 h).1)
            refine wpOpIn_step rfl (fun K hK => ?_)
            clear hun hdep hi
            go_simp
            refine hK _ _ ⟨b0, b1, true, true, true, true, true, false, b8, false, v2', gq2, w'.heap.size, ⟨e1, fun _ => rfl, fun _ => ⟨rfl, rfl⟩, fun _ => rfl, fun h => Bool.noConfusion h, fun h => Bool.noConfusion h⟩, rfl, rfl, hR.box_⟩
          · -- 7
            simp only [List.getElem?_toArray, List.getElem?_cons_succ, List.getElem?_cons_zero, Option.some.injEq] at ho
            subst ho
            have hbi : b7 = false := by simpa using hun
            subst hbi
            have hd1 : b1 = true := by have := hdep ⟨1, .data⟩ (by simp) rfl; simpa using this
            have hd6 : b6 = true := by have := hdep ⟨6, .data⟩ (by simp) rfl; simpa using this
            have hd5 : b5 = true := (e6 hd6)
            have hd4 : b4 = true := (e5 hd5).2
            have hd3 : b3 = true := (e5 hd5).1
            have hd2 : b2 = true := (e3 hd3)
            have hd0 : b0 = true := (e1 hd1)
            subst hd0 hd1 hd2 hd3 hd4 hd5 hd6
            obtain rfl : b9 = false := Bool.eq_false_iff.2 (fun h => Bool.noConfusion (e9 h).1)
            refine wpOpIn_step rfl (fun K hK => ?_)
            clear hun hdep hi
            refine PR.stepIn_append_liesG _ rfl _ _ 22 rfl 0 23 i0 (.slice none 0 0) 1 24 Try.underlying22 hi' hzz0 hzz1 hzz2 rfl (by decide) q n vs rfl (HT7.out.own (hR.low rfl) HYL.out) ⟨hb2, 0, none⟩ 1 1 [.slice (some ⟨gq2, 0, none⟩) A.length A.length] rfl rfl (news_oneG (hR.box rfl rfl)) (by simp [Value.oneCell']) (by decide) (by unfold maxLen; omega) (by omega) (Nat.zero_le _) ?_
            intro g2 cap w'' hown hgrow hat hgl
            refine hK _ _ ⟨true, true, true, true, true, true, true, true, b8, false, (.slice (some ⟨g2, 0, none⟩) (n + 1) cap), gq2, hb2, ⟨fun _ => rfl, fun _ => rfl, fun _ => ⟨rfl, rfl⟩, fun _ => rfl, fun _ => ⟨rfl, rfl⟩, fun h => Bool.noConfusion h⟩, rfl, rfl, hR.app_ hown hgrow hat⟩
          · -- 8
            simp only [List.getElem?_toArray, List.getElem?_cons_succ, List.getElem?_cons_zero, Option.some.injEq] at ho
            subst ho
            have hbi : b8 = false := by simpa using hun
            subst hbi
            obtain rfl : b9 = false := Bool.eq_false_iff.2 (fun h => Bool.noConfusion (e9 h).2)
            refine wpOpIn_step rfl (fun K hK => ?_)
            clear hun hdep hi
            go_simp
            refine hK _ _ ⟨b0, b1, b2, b3, b4, b5, b6, b7, true, false, v2', gq2, hb2, ⟨e1, e3, e5, e6, e7, fun h => Bool.noConfusion h⟩, rfl, rfl, hR⟩
          · -- 9
            simp only [List.getElem?_toArray, List.getElem?_cons_succ, List.getElem?_cons_zero, Option.some.injEq] at ho
            subst ho
            have hbi : b9 = false := by simpa using hun
            subst hbi
            have hd7 : b7 = true := by have := hdep ⟨7, .data⟩ (by simp) rfl; simpa using this
            have hd8 : b8 = true := by have := hdep ⟨8, .data⟩ (by simp) rfl; simpa using this
            have hd6 : b6 = true := (e7 hd7).2
            have hd5 : b5 = true := (e6 hd6)
            have hd4 : b4 = true := (e5 hd5).2
            have hd3 : b3 = true := (e5 hd5).1
            have hd2 : b2 = true := (e3 hd3)
            have hd1 : b1 = true := (e7 hd7).1
            have hd0 : b0 = true := (e1 hd1)
            subst hd0 hd1 hd2 hd3 hd4 hd5 hd6 hd7 hd8
            refine wpOpIn_step rfl (fun K hK => ?_)
            clear hun hdep hi
            obtain ⟨w3', g2, cap, rfl, hl3', _, _, hgr, _⟩ := hR.app rfl rfl
            obtain ⟨f1', f2', f3'⟩ := HT7.out.far hl3' hgr HT7.out.vN
            have t0 := (f2' 1).trans HT7.out.c1
            have t1 := f3' 1
            clear f1' f2' f3' hl3' hgr
            go_simp
            refine hK _ _ ⟨true, true, true, true, true, true, true, true, true, true, (.slice (some ⟨g2, 0, none⟩) (n + 1) cap), gq2, hb2, ⟨fun _ => rfl, fun _ => rfl, fun _ => ⟨rfl, rfl⟩, fun _ => rfl, fun _ => ⟨rfl, rfl⟩, fun _ => ⟨rfl, rfl⟩⟩, rfl, rfl, hR.store_ HT7.out HYL.out (HB7.out.mono hNw)⟩
      · exact ⟨false, false, false, false, false, false, false, false, false, false, undef, 0, 0, by simp, rfl, rfl, ⟨fun _ => (Below.refl _ _).drew, fun e => (by cases e), fun e => (by cases e), fun e => (by cases e), fun e => (by cases e)⟩⟩
      · rintro listed ac w' i oi ⟨b0, b1, b2, b3, b4, b5, b6, b7, b8, b9, v', gq, hb, ⟨e1, e3, e5, e6, e7, e9⟩, rfl, rfl, hR⟩ ho hun hdep
        have hi : i < 10 := by simpa using (Array.getElem?_eq_some_iff.1 ho).1
        obtain rfl | rfl | rfl | rfl | rfl | rfl | rfl | rfl | rfl | rfl : i = 0 ∨ i = 1 ∨ i = 2 ∨ i = 3 ∨ i = 4 ∨ i = 5 ∨ i = 6 ∨ i = 7 ∨ i = 8 ∨ i = 9 := by omega
        · -- 0
          simp only [List.getElem?_toArray, List.getElem?_cons_zero, Option.some.injEq] at ho
          subst ho
          have hbi : b0 = false := by simpa using hun
          subst hbi
          obtain rfl : b1 = false := Bool.eq_false_iff.2 (fun h => Bool.noConfusion (e1 h))
          obtain rfl : b7 = false := Bool.eq_false_iff.2 (fun h => Bool.noConfusion (e7 h).1)
          obtain rfl : b9 = false := Bool.eq_false_iff.2 (fun h => Bool.noConfusion (e9 h).1)
          refine wpOpIn_step rfl (fun K hK => ?_)
          clear hun hdep hi
          go_simp
          refine hK _ _ ⟨true, false, b2, b3, b4, b5, b6, false, b8, false, v', gq, hb, ⟨fun h => Bool.noConfusion h, e3, e5, e6, fun h => Bool.noConfusion h, fun h => Bool.noConfusion h⟩, rfl, rfl, hR⟩
        · -- 1
          simp only [List.getElem?_toArray, List.getElem?_cons_succ, List.getElem?_cons_zero, Option.some.injEq] at ho
          subst ho
          have hbi : b1 = false := by simpa using hun
          subst hbi
          have hd0 : b0 = true := by have := hdep ⟨0, .data⟩ (by simp) rfl; simpa using this
          subst hd0
          obtain rfl : b7 = false := Bool.eq_false_iff.2 (fun h => Bool.noConfusion (e7 h).1)
          obtain rfl : b9 = false := Bool.eq_false_iff.2 (fun h => Bool.noConfusion (e9 h).1)
          refine wpOpIn_step rfl (fun K hK => ?_)
          clear hun hdep hi
          have t0 := ((hR.low rfl).cell (p := ⟨N, 0, none⟩) HTW.out.lt).trans HTW.out.c1
          go_simp
          refine hK _ _ ⟨true, true, b2, b3, b4, b5, b6, false, b8, false, v', gq, hb, ⟨fun _ => rfl, e3, e5, e6, fun h => Bool.noConfusion h, fun h => Bool.noConfusion h⟩, rfl, rfl, hR⟩
        · -- 2
          simp only [List.getElem?_toArray, List.getElem?_cons_succ, List.getElem?_cons_zero, Option.some.injEq] at ho
          subst ho
          have hbi : b2 = false := by simpa using hun
          subst hbi
          obtain rfl : b3 = false := Bool.eq_false_iff.2 (fun h => Bool.noConfusion (e3 h))
          obtain rfl : b5 = false := Bool.eq_false_iff.2 (fun h => Bool.noConfusion (e5 h).1)
          obtain rfl : b6 = false := Bool.eq_false_iff.2 (fun h => Bool.noConfusion (e6 h))
          obtain rfl : b7 = false := Bool.eq_false_iff.2 (fun h => Bool.noConfusion (e7 h).2)
          obtain rfl : b9 = false := Bool.eq_false_iff.2 (fun h => Bool.noConfusion (e9 h).1)
          refine wpOpIn_step rfl (fun K hK => ?_)
          clear hun hdep hi
          go_simp
          refine hK _ _ ⟨b0, b1, true, false, b4, false, false, false, b8, false, v', gq, hb, ⟨e1, fun h => Bool.noConfusion h, fun h => Bool.noConfusion h, fun h => Bool.noConfusion h, fun h => Bool.noConfusion h, fun h => Bool.noConfusion h⟩, rfl, rfl, hR⟩
        · -- 3
          simp only [List.getElem?_toArray, List.getElem?_cons_succ, List.getElem?_cons_zero, Option.some.injEq] at ho
          subst ho
          have hbi : b3 = false := by simpa using hun
          subst hbi
          have hd2 : b2 = true := by have := hdep ⟨2, .data⟩ (by simp) rfl; simpa using this
          subst hd2
          obtain rfl : b5 = false := Bool.eq_false_iff.2 (fun h => Bool.noConfusion (e5 h).1)
          obtain rfl : b6 = false := Bool.eq_false_iff.2 (fun h => Bool.noConfusion (e6 h))
          obtain rfl : b7 = false := Bool.eq_false_iff.2 (fun h => Bool.noConfusion (e7 h).2)
          obtain rfl : b9 = false := Bool.eq_false_iff.2 (fun h => Bool.noConfusion (e9 h).1)
          refine wpOpIn_step rfl (fun K hK => ?_)
          clear hun hdep hi
          have t0 := ((hR.low rfl).cell (p := ⟨w.heap.size, 1, none⟩) hzw).trans p1
          go_simp
          refine hK _ _ ⟨b0, b1, true, true, b4, false, false, false, b8, false, v', gq, hb, ⟨e1, fun _ => rfl, fun h => Bool.noConfusion h, fun h => Bool.noConfusion h, fun h => Bool.noConfusion h, fun h => Bool.noConfusion h⟩, rfl, rfl, hR⟩
        · -- 4
          simp only [List.getElem?_toArray, List.getElem?_cons_succ, List.getElem?_cons_zero, Option.some.injEq] at ho
          subst ho
          have hbi : b4 = false := by simpa using hun
          subst hbi
          obtain rfl : b5 = false := Bool.eq_false_iff.2 (fun h => Bool.noConfusion (e5 h).2)
          obtain rfl : b6 = false := Bool.eq_false_iff.2 (fun h => Bool.noConfusion (e6 h))
          obtain rfl : b7 = false := Bool.eq_false_iff.2 (fun h => Bool.noConfusion (e7 h).2)
          obtain rfl : b9 = false := Bool.eq_false_iff.2 (fun h => Bool.noConfusion (e9 h).1)
          refine wpOpIn_step rfl (fun K hK => ?_)
          clear hun hdep hi
          go_simp
          refine hK _ _ ⟨b0, b1, b2, b3, true, false, false, false, b8, false, v', gq, hb, ⟨e1, e3, fun h => Bool.noConfusion h, fun h => Bool.noConfusion h, fun h => Bool.noConfusion h, fun h => Bool.noConfusion h⟩, rfl, rfl, hR⟩
        · -- 5
          simp only [List.getElem?_toArray, List.getElem?_cons_succ, List.getElem?_cons_zero, Option.some.injEq] at ho
          subst ho
          have hbi : b5 = false := by simpa using hun
          subst hbi
          have hd3 : b3 = true := by have := hdep ⟨3, .data⟩ (by simp) rfl; simpa using this
          have hd4 : b4 = true := by have := hdep ⟨4, .data⟩ (by simp) rfl; simpa using this
          have hd2 : b2 = true := (e3 hd3)
          subst hd2 hd3 hd4
          obtain rfl : b6 = false := Bool.eq_false_iff.2 (fun h => Bool.noConfusion (e6 h))
          obtain rfl : b7 = false := Bool.eq_false_iff.2 (fun h => Bool.noConfusion (e7 h).2)
          obtain rfl : b9 = false := Bool.eq_false_iff.2 (fun h => Bool.noConfusion (e9 h).1)
          refine wpOpIn_step rfl (fun K hK => ?_)
          clear hun hdep hi
          go_simp
          refine ⟨trivial, (callsIn_wide.2 (HCBn.out w' (hw2.trans ((hR.low rfl).mono hw2.size)))).mono ?_⟩
          rintro e w'' ⟨yg, rfl, hF, hb'⟩
          refine hK _ _ ⟨b0, b1, true, true, true, true, false, false, b8, false, v', yg, hb, ⟨e1, fun _ => rfl, fun _ => ⟨rfl, rfl⟩, fun h => Bool.noConfusion h, fun h => Bool.noConfusion h, fun h => Bool.noConfusion h⟩, rfl, rfl, hR.call hF hb'⟩
        · -- 6
          simp only [List.getElem?_toArray, List.getElem?_cons_succ, List.getElem?_cons_zero, Option.some.injEq] at ho
          subst ho
          have hbi : b6 = false := by simpa using hun
          subst hbi
          have hd5 : b5 = true := by have := hdep ⟨5, .data⟩ (by simp) rfl; simpa using this
          have hd4 : b4 = true := (e5 hd5).2
          have hd3 : b3 = true := (e5 hd5).1
          have hd2 : b2 = true := (e3 hd3)
          subst hd2 hd3 hd4 hd5
          obtain rfl : b7 = false := Bool.eq_false_iff.2 (fun h => Bool.noConfusion (e7 h).2)
          obtain rfl : b9 = false := Bool.eq_false_iff.2 (fun h => Bool.noConfusion (e9 h).1)
          refine wpOpIn_step rfl (fun K hK => ?_)
          clear hun hdep hi
          go_simp
          refine hK _ _ ⟨b0, b1, true, true, true, true, true, false, b8, false, v', gq, w'.heap.size, ⟨e1, fun _ => rfl, fun _ => ⟨rfl, rfl⟩, fun _ => rfl, fun h => Bool.noConfusion h, fun h => Bool.noConfusion h⟩, rfl, rfl, hR.box_⟩
        · -- 7
          simp only [List.getElem?_toArray, List.getElem?_cons_succ, List.getElem?_cons_zero, Option.some.injEq] at ho
          subst ho
          have hbi : b7 = false := by simpa using hun
          subst hbi
          have hd1 : b1 = true := by have := hdep ⟨1, .data⟩ (by simp) rfl; simpa using this
          have hd6 : b6 = true := by have := hdep ⟨6, .data⟩ (by simp) rfl; simpa using this
          have hd5 : b5 = true := (e6 hd6)
          have hd4 : b4 = true := (e5 hd5).2
          have hd3 : b3 = true := (e5 hd5).1
          have hd2 : b2 = true := (e3 hd3)
          have hd0 : b0 = true := (e1 hd1)
          subst hd0 hd1 hd2 hd3 hd4 hd5 hd6
          obtain rfl : b9 = false := Bool.eq_false_iff.2 (fun h => Bool.noConfusion (e9 h).1)
          refine wpOpIn_step rfl (fun K hK => ?_)
          clear hun hdep hi
          refine PR.stepIn_append_liesG _ rfl _ _ 22 rfl 0 23 i0 (.slice none 0 0) 1 24 Try.underlying22 hi' hzz0 hzz1 hzz2 rfl (by decide) v n us rfl (HTW.out.own (hR.low rfl) HXL.out) ⟨hb, 0, none⟩ 1 1 [.slice (some ⟨gq, 0, none⟩) A.length A.length] rfl rfl (news_oneG (hR.box rfl rfl)) (by simp [Value.oneCell']) (by decide) (by unfold maxLen; omega) (by omega) (Nat.zero_le _) ?_
          intro g2 cap w'' hown hgrow hat hgl
          refine hK _ _ ⟨true, true, true, true, true, true, true, true, b8, false, (.slice (some ⟨g2, 0, none⟩) (n + 1) cap), gq, hb, ⟨fun _ => rfl, fun _ => rfl, fun _ => ⟨rfl, rfl⟩, fun _ => rfl, fun _ => ⟨rfl, rfl⟩, fun h => Bool.noConfusion h⟩, rfl, rfl, hR.app_ hown hgrow hat⟩
        · -- 8
          simp only [List.getElem?_toArray, List.getElem?_cons_succ, List.getElem?_cons_zero, Option.some.injEq] at ho
          subst ho
          have hbi : b8 = false := by simpa using hun
          subst hbi
          obtain rfl : b9 = false := Bool.eq_false_iff.2 (fun h => Bool.noConfusion (e9 h).2)
          refine wpOpIn_step rfl (fun K hK => ?_)
          clear hun hdep hi
          go_simp
          refine hK _ _ ⟨b0, b1, b2, b3, b4, b5, b6, b7, true, false, v', gq, hb, ⟨e1, e3, e5, e6, e7, fun h => Bool.noConfusion h⟩, rfl, rfl, hR⟩
        · -- 9
          simp only [List.getElem?_toArray, List.getElem?_cons_succ, List.getElem?_cons_zero, Option.some.injEq] at ho
          subst ho
          have hbi : b9 = false := by simpa using hun
          subst hbi
          have hd7 : b7 = true := by have := hdep ⟨7, .data⟩ (by simp) rfl; simpa using this
          have hd8 : b8 = true := by have := hdep ⟨8, .data⟩ (by simp) rfl; simpa using this
          have hd6 : b6 = true := (e7 hd7).2
          have hd5 : b5 = true := (e6 hd6)
          have hd4 : b4 = true := (e5 hd5).2
          have hd3 : b3 = true := (e5 hd5).1
          have hd2 : b2 = true := (e3 hd3)
          have hd1 : b1 = true := (e7 hd7).1
          have hd0 : b0 = true := (e1 hd1)
          subst hd0 hd1 hd2 hd3 hd4 hd5 hd6 hd7 hd8
          refine wpOpIn_step rfl (fun K hK => ?_)
          clear hun hdep hi
          obtain ⟨w3', g2, cap, rfl, hl3', _, _, hgr, _⟩ := hR.app rfl rfl
          obtain ⟨f1', f2', f3'⟩ := HTW.out.far hl3' hgr HTW.out.vN
          have t0 := (f2' 0).trans HTW.out.c1
          have t1 := f3' 0
          clear f1' f2' f3' hl3' hgr
          go_simp
          refine hK _ _ ⟨true, true, true, true, true, true, true, true, true, true, (.slice (some ⟨g2, 0, none⟩) (n + 1) cap), gq, hb, ⟨fun _ => rfl, fun _ => rfl, fun _ => ⟨rfl, rfl⟩, fun _ => rfl, fun _ => ⟨rfl, rfl⟩, fun _ => ⟨rfl, rfl⟩⟩, rfl, rfl, hR.store_ HTW.out HXL.out (HBW.out.mono hNw)⟩
    · have hnl : n = gcols A := by omega
      rw [hnl] at hT
      have hg2 := HG1.out.next hB
      obtain ⟨hw2, p0, p1, t0, t1, t2, hz2⟩ := hg2
      have HTW := Lib.hid hT
      have hc1 := hT.c1
      have hc2 := hT.c2
      clear hT
      obtain ⟨av, cv, rfl⟩ := ownR_shapeG HTW.out.fst.rows
      obtain ⟨aq, cq, rfl⟩ := ownR_shapeG HTW.out.snd.rows
      rw [turnL_length] at hc1 hc2 HTW
      rw [turnL_length] at HTW
      have hfin : ∀ (v x y : Value) (Z : List (List Int)) (us : List Value), OwnRs N wr v Z us → OwnRs w.heap.size ((wr.setCell ⟨w.heap.size + 1, 0, none⟩ x).setCell ⟨w.heap.size + 1, 1, none⟩ y) v Z us := fun v x y Z us h =>
        (h.keepI (by simp) (fun b hb => by have := (h.inb hb).1; rw [Below.heap_setCell _ _ _ _ (by show b ≠ w.heap.size + 1; omega), Below.heap_setCell _ _ _ _ (by show b ≠ w.heap.size + 1; omega)])).mono (by omega)
      have HG := Lib.hid (fun x y => rngG_two (hfin _ x y _ _ HTW.out.fst) (hfin _ x y _ _ HTW.out.snd) HTW.out.ap)
      have HL := Lib.hid (fun x y => (hw2.setCell (p := ⟨w.heap.size + 1, 0, none⟩) (by show w.heap.size ≤ w.heap.size + 1; omega) x).setCell (p := ⟨w.heap.size + 1, 1, none⟩) (by show w.heap.size ≤ w.heap.size + 1; omega) y)
      clear hfin
      go_wp2_with fail
      refine bodyPost_ret (v := .tuple #[.agg #[.slice av (gcols A) cv, .slice aq (gcols A) cq], .int .i64 0]) (by simp [*, results, Try.results48, go_sem]) rfl ?_
      rw [HO.out]
      exact ⟨_, _, (us, vs), rfl, HG.out _ _, HL.out _ _⟩
end Go.Proofs.Ytkdgnegnndedaaa.PW
