/-
  Walks: has a game a constant sum? In the model and in the program.
-/
import Derived.Test.YtnefglpcbekmhaaGIs
import Derived.BigQuiet
namespace Go.Proofs.Ytnefglpcbekmhaa.PW
open Go.RowKit Go.Proofs.Ytnefglpcbekmhaa
open Go.Proofs.Ytnefglpcbekmhaa.PM

/-- The rows of a table of a game, as they lie in whatever later world. -/
theorem tab_at {w : World} {v : Value} {M : List (List Int)} {l : Nat} (h : PM.Rows w v M) (hn : 1 ≤ M.length) (hl1 : 1 ≤ l) (hl : ∀ i, i < M.length → (M.getD i []).length = l) :
    ∃ b off c, v = .slice (some ⟨b, off, none⟩) M.length c ∧ ∀ wr, Below w.heap.size w wr → ∀ i, i < M.length → ∃ r o d, wr.cell? ⟨b, off + i, none⟩ = some (.slice (some ⟨r, o, none⟩) l d) ∧ ∀ j, j < l → wr.cell? ⟨r, o + j, none⟩ = some (.int .i64 (gE M i j)) := by
  obtain ⟨b, off, c, rfl, hb, _, hcell⟩ := grows_at h hn
  refine ⟨b, off, c, rfl, fun wr hw i hi => ?_⟩
  obtain ⟨u, hu, hU⟩ := hcell i hi
  obtain ⟨r, o, d, rfl, hr, hc⟩ := ints_row hU (by rw [hl i hi]; exact hl1)
  refine ⟨r, o, d, (hw.cell (p := ⟨b, off + i, none⟩) hb).trans (by rw [hu, hl i hi]), fun j hj => (hw.cell (p := ⟨r, o + j, none⟩) hr).trans (hc j (by rw [hl i hi]; exact hj))⟩

def conB (M Q : List (List Int)) : Bool := decide (∀ i, i < M.length → ∀ j, j < gcols M → gE M i j + gE Q i j = gE M 0 0 + gE Q 0 0)
def conOut (M Q : List (List Int)) : Bool × Int := if isGB M Q = true then (conB M Q, 0) else (false, 1)
theorem conOut_no {M Q : List (List Int)} (h : isGB M Q = false) : conOut M Q = (false, 1) := by unfold conOut; rw [if_neg (by simp [h])]
theorem conOut_ok {M Q : List (List Int)} (h : isGB M Q = true) : conOut M Q = (conB M Q, 0) := by unfold conOut; rw [if_pos h]

set_option maxRecDepth 100000 in
set_option maxHeartbeats 2000000 in
theorem specIsConstantSum_any (m q : Value) (M Q : List (List Int)) (w : World) (h1 : PM.Rows w m M) (h2 : PM.Rows w q Q) :
    Calls Try.prog 50 #[.agg #[m, q]] w fun e w' => e = .returned (.tuple #[.bool (conOut M Q).1, .int .i64 (conOut M Q).2]) ∧ Below w.heap.size w w' := by
  have HIS := Lib.hid (fun (w' : World) (h : Below w.heap.size w w') => l07Is_any m q M Q w' (h1.below h) (h2.below h))
  cases hc : isGB M Q
  · rw [conOut_no hc]
    rw [hc] at HIS
    obtain ⟨a1, c1, rfl, _⟩ := h1
    obtain ⟨a2, c2, rfl, _⟩ := h2
    clear hc
    go_enter Try.func50, Try.ntmps50
    go_wp2_with fail
    refine (HIS.out _ (by (repeat' (first | (with_reducible exact Below.refl _ _) | (with_reducible assumption) | (with_reducible refine Below.alloc ?_ ?_ _) | (with_reducible refine Below.drew ?_) | (with_reducible refine below_drewN ?_ _) | (with_reducible refine Below.setCell ?_ ?_ _) | (with_reducible refine Below.trans ?_ (Below.mono (by with_reducible assumption) ?_)) | (with_reducible exact Below.size (by with_reducible assumption)) | go_size)))).mono ?_; rintro e w1 ⟨rfl, hb1⟩
    have hw1 : Below w.heap.size w w1 := by (repeat' (first | (with_reducible exact Below.refl _ _) | (with_reducible assumption) | (with_reducible refine Below.alloc ?_ ?_ _) | (with_reducible refine Below.drew ?_) | (with_reducible refine below_drewN ?_ _) | (with_reducible refine Below.setCell ?_ ?_ _) | (with_reducible refine Below.trans ?_ (Below.mono (by with_reducible assumption) ?_)) | (with_reducible exact Below.size (by with_reducible assumption)) | go_size))
    go_wp2_with fail
    go_ret2
    exact ⟨rfl, hw1⟩
  rw [conOut_ok hc]
  rw [hc] at HIS
  obtain ⟨f1, f2, f3, f4, f5, f6, f7, f8⟩ := (isGB_iff M Q).1 hc
  obtain ⟨b, off, c, rfl, hA⟩ := tab_at h1 f1 f2 f5
  obtain ⟨b2, off2, c2, rfl, hB⟩ := tab_at h2 (by omega) f2 (fun i hi => f6 i (by omega))
  have HC := Lib.hid (show conB M Q = true ↔ ∀ i, i < M.length → ∀ j, j < gcols M → gE M i j + gE Q i j = gE M 0 0 + gE Q 0 0 from by unfold conB; rw [decide_eq_true_iff])
  obtain ⟨A, hAA⟩ : ∃ A, A = conB M Q := ⟨_, rfl⟩
  rw [← hAA] at HC ⊢
  rw [f4]
  rw [f4] at hB HIS
  have HA := Lib.hid hA
  have HB := Lib.hid hB
  have HBD := Lib.hid (fun i j (hi : i < M.length) (hj : j < gcols M) => And.intro (f7 i j hi hj) (f8 i j hi hj))
  clear h1 h2 hA hB hAA hc f4 f5 f6 f7 f8
  generalize M.length = k at *
  generalize gcols M = l at *
  go_enter Try.func50, Try.ntmps50
  go_wp2_with fail
  refine (HIS.out _ (by (repeat' (first | (with_reducible exact Below.refl _ _) | (with_reducible assumption) | (with_reducible refine Below.alloc ?_ ?_ _) | (with_reducible refine Below.drew ?_) | (with_reducible refine below_drewN ?_ _) | (with_reducible refine Below.setCell ?_ ?_ _) | (with_reducible refine Below.trans ?_ (Below.mono (by with_reducible assumption) ?_)) | (with_reducible exact Below.size (by with_reducible assumption)) | go_size)))).mono ?_; rintro e w1 ⟨rfl, hb1⟩
  have hw1 : Below w.heap.size w w1 := by (repeat' (first | (with_reducible exact Below.refl _ _) | (with_reducible assumption) | (with_reducible refine Below.alloc ?_ ?_ _) | (with_reducible refine Below.drew ?_) | (with_reducible refine below_drewN ?_ _) | (with_reducible refine Below.setCell ?_ ?_ _) | (with_reducible refine Below.trans ?_ (Below.mono (by with_reducible assumption) ?_)) | (with_reducible exact Below.size (by with_reducible assumption)) | go_size))
  have hz1 : w.heap.size < w1.heap.size := by have := hb1.size; simp at this; omega
  have x0 : w1.cell? ⟨w.heap.size, 0, none⟩ = some (.slice (some ⟨b, off, none⟩) k c) := (hb1.cell (p := ⟨w.heap.size, 0, none⟩) (by simp)).trans (by simp)
  have x1 : w1.cell? ⟨w.heap.size, 1, none⟩ = some (.slice (some ⟨b2, off2, none⟩) k c2) := (hb1.cell (p := ⟨w.heap.size, 1, none⟩) (by simp)).trans (by simp)
  have HK := Lib.hid (fun wr (h : Below w1.heap.size w1 wr) => show wr.cell? ⟨w.heap.size, 0, none⟩ = some (.slice (some ⟨b, off, none⟩) k c) ∧ wr.cell? ⟨w.heap.size, 1, none⟩ = some (.slice (some ⟨b2, off2, none⟩) k c2) from
    ⟨(h.cell (p := ⟨w.heap.size, 0, none⟩) hz1).trans x0, (h.cell (p := ⟨w.heap.size, 1, none⟩) hz1).trans x1⟩)
  have HW1 := Lib.hid hw1
  clear hb1 hw1 HIS x0 x1
  go_wp2_with fail
  go_loopw [4, 5] (fun i _ wr => ∃ n : Nat, n ≤ k ∧ i = .int .i64 n ∧ Hid (∀ i, i < n → ∀ j, j < l → gE M i j + gE Q i j = gE M 0 0 + gE Q 0 0) ∧ Below w1.heap.size w1 wr) (fun i _ _ => k - (intOf i).toNat)
  case atStart => exact ⟨0, Nat.zero_le _, by go_num, fun a ha => absurd ha (Nat.not_lt_zero _), Below.refl _ _⟩
  case round =>
    obtain ⟨n, hn, rfl, hgood, hBe⟩ := hrel
    obtain ⟨e0, e1⟩ := HK.out wr hBe
    by_cases hlt : n < k
    · have HBE := Lib.hid hBe
      clear hBe
      go_wp2_with fail
      clear e0 e1
      go_loopw [5] (fun i wr => ∃ j : Nat, j ≤ l ∧ i = .int .i64 j ∧ Hid (∀ i, i < j → gE M n i + gE Q n i = gE M 0 0 + gE Q 0 0) ∧ Below w1.heap.size w1 wr) (fun i _ => l - (intOf i).toNat)
      case atStart => exact ⟨0, Nat.zero_le _, by go_num, fun a ha => absurd ha (Nat.not_lt_zero _), HBE.out⟩
      case round =>
        obtain ⟨j, hj, rfl, hin, hBe⟩ := hrel
        obtain ⟨e0, e1⟩ := HK.out wr hBe
        obtain ⟨r1, o1, d1, t1, y1⟩ := HA.out wr (HW1.out.trans (hBe.mono HW1.out.size)) n hlt
        by_cases hltj : j < l
        · obtain ⟨r2, o2, d2, t2, y2⟩ := HB.out wr (HW1.out.trans (hBe.mono HW1.out.size)) n hlt
          obtain ⟨r3, o3, d3, t3, y3⟩ := HA.out wr (HW1.out.trans (hBe.mono HW1.out.size)) 0 (by omega)
          obtain ⟨r4, o4, d4, t4, y4⟩ := HB.out wr (HW1.out.trans (hBe.mono HW1.out.size)) 0 (by omega)
          have z1 := y1 j hltj
          have z2 := y2 j hltj
          have z3 := y3 0 (by omega)
          have z4 := y4 0 (by omega)
          simp only [Nat.add_zero] at t3 t4 z3 z4
          obtain ⟨⟨u1, u2⟩, u3, u4⟩ := HBD.out n j hlt hltj
          obtain ⟨⟨v1, v2⟩, v3, v4⟩ := HBD.out 0 0 (by omega) (by omega)
          have hnx : Hid (gE M n j + gE Q n j = gE M 0 0 + gE Q 0 0 → ∀ i, i < j + 1 → gE M n i + gE Q n i = gE M 0 0 + gE Q 0 0) := fun h i hi => by
            by_cases e : i = j
            · subst e; exact h
            · exact hin.out i (by omega)
          have hno : Hid (gE M n j + gE Q n j ≠ gE M 0 0 + gE Q 0 0 → A = false) := fun h => by
            cases A
            · rfl
            · exact absurd (HC.out.1 rfl n hlt j hltj) h
          have HBd := Lib.hid (fun n => below_drewN hBe n)
          clear y1 y2 y3 y4 hin hBe
          obtain ⟨p1, hp1⟩ : ∃ p, p = gE M n j := ⟨_, rfl⟩
          obtain ⟨p2, hp2⟩ : ∃ p, p = gE Q n j := ⟨_, rfl⟩
          obtain ⟨p3, hp3⟩ : ∃ p, p = gE M 0 0 := ⟨_, rfl⟩
          obtain ⟨p4, hp4⟩ : ∃ p, p = gE Q 0 0 := ⟨_, rfl⟩
          rw [← hp1] at z1 u1 u2
          rw [← hp2] at z2 u3 u4
          rw [← hp3] at z3 v1 v2
          rw [← hp4] at z4 v3 v4
          rw [← hp1, ← hp2, ← hp3, ← hp4] at hno
          have HNX : Hid (p1 + p2 = p3 + p4 → _) := Lib.hid (fun h => hnx.out (by rw [← hp1, ← hp2, ← hp3, ← hp4]; exact h))
          clear hp1 hp2 hp3 hp4 hnx
          have hs1 : wrap64 (p1 + p2) = p1 + p2 := IntWalk.wrap64_in _ (by omega)
          have hs2 : wrap64 (p3 + p4) = p3 + p4 := IntWalk.wrap64_in _ (by omega)
          by_cases he : p1 + p2 = p3 + p4
          · have hX := Lib.hid (HNX.out he)
            have hne : ((p1 + p2) != (p3 + p4)) = false := by simpa using he
            clear he hno u1 u2 u3 u4 v1 v2 v3 v4
            go_wp2_with fail
            go_quiet (fail)
            go_wp2_with fail
            go_roundw
            case rel => exact ⟨j + 1, by omega, by go_num, hX, HBd.out _⟩
            case measure => simp [intOf]; omega
          · have hO := Lib.hid (hno.out he)
            have hne : ((p1 + p2) != (p3 + p4)) = true := by simpa using he
            clear he hno u1 u2 u3 u4 v1 v2 v3 v4
            go_wp2_with fail
            go_quiet (fail)
            go_wp2_with fail
            go_ret2
            exact ⟨by rw [hO.out]; rfl, HW1.out.trans ((HBd.out _).mono HW1.out.size)⟩
        · obtain rfl : j = l := by omega
          have hX : Hid (∀ i, i < n + 1 → ∀ c, c < j → gE M i c + gE Q i c = gE M 0 0 + gE Q 0 0) := fun i hi => by
            by_cases e : i = n
            · subst e; exact hin.out
            · exact hgood.out i (by omega)
          have HBE2 := Lib.hid hBe
          clear hBe hin y1
          go_wp2_with fail
          go_roundw
          case rel => exact ⟨n + 1, by omega, by go_num, hX, HBE2.out⟩
          case measure => simp [intOf]; omega
    · obtain rfl : n = k := by omega
      have hO : Hid (A = true) := HC.out.2 hgood.out
      have HBE := Lib.hid hBe
      clear hBe hgood
      go_wp2_with fail
      go_ret2
      exact ⟨by rw [hO.out]; rfl, HW1.out.trans (HBE.out.mono HW1.out.size)⟩
set_option maxRecDepth 100000 in
set_option maxHeartbeats 2000000 in
theorem implIsConstantSum_any (m q : Value) (M Q : List (List Int)) (w : World) (h1 : PM.Rows w m M) (h2 : PM.Rows w q Q) (hs : tot M ≤ 1048576) :
    Calls Try.prog 51 #[.agg #[m, q]] w fun e w' => e = .returned (.tuple #[.bool (conOut M Q).1, .int .i64 (conOut M Q).2]) ∧ Below w.heap.size w w' := by
  have HIS := Lib.hid (fun (w' : World) (h : Below w.heap.size w w') => implIsGame_any m q M Q w' (h1.below h) (h2.below h) hs)
  cases hc : isGB M Q
  · rw [conOut_no hc]
    rw [hc] at HIS
    obtain ⟨a1, c1, rfl, _⟩ := h1
    obtain ⟨a2, c2, rfl, _⟩ := h2
    clear hc
    go_enter Try.func51, Try.ntmps51
    go_wp2_with fail
    refine (HIS.out _ (by (repeat' (first | (with_reducible exact Below.refl _ _) | (with_reducible assumption) | (with_reducible refine Below.alloc ?_ ?_ _) | (with_reducible refine Below.drew ?_) | (with_reducible refine below_drewN ?_ _) | (with_reducible refine Below.setCell ?_ ?_ _) | (with_reducible refine Below.trans ?_ (Below.mono (by with_reducible assumption) ?_)) | (with_reducible exact Below.size (by with_reducible assumption)) | go_size)))).mono ?_; rintro e w1 ⟨rfl, hb1⟩
    have hw1 : Below w.heap.size w w1 := by (repeat' (first | (with_reducible exact Below.refl _ _) | (with_reducible assumption) | (with_reducible refine Below.alloc ?_ ?_ _) | (with_reducible refine Below.drew ?_) | (with_reducible refine below_drewN ?_ _) | (with_reducible refine Below.setCell ?_ ?_ _) | (with_reducible refine Below.trans ?_ (Below.mono (by with_reducible assumption) ?_)) | (with_reducible exact Below.size (by with_reducible assumption)) | go_size))
    go_wp2_with fail
    go_ret2
    exact ⟨rfl, hw1⟩
  rw [conOut_ok hc]
  rw [hc] at HIS
  obtain ⟨f1, f2, f3, f4, f5, f6, f7, f8⟩ := (isGB_iff M Q).1 hc
  obtain ⟨b, off, c, rfl, hA⟩ := tab_at h1 f1 f2 f5
  obtain ⟨b2, off2, c2, rfl, hB⟩ := tab_at h2 (by omega) f2 (fun i hi => f6 i (by omega))
  have HC := Lib.hid (show conB M Q = true ↔ ∀ i, i < M.length → ∀ j, j < gcols M → gE M i j + gE Q i j = gE M 0 0 + gE Q 0 0 from by unfold conB; rw [decide_eq_true_iff])
  obtain ⟨A, hAA⟩ : ∃ A, A = conB M Q := ⟨_, rfl⟩
  rw [← hAA] at HC ⊢
  rw [f4]
  rw [f4] at hB HIS
  have HA := Lib.hid hA
  have HB := Lib.hid hB
  have HBD := Lib.hid (fun i j (hi : i < M.length) (hj : j < gcols M) => And.intro (f7 i j hi hj) (f8 i j hi hj))
  clear h1 h2 hA hB hAA hc f4 f5 f6 f7 f8
  generalize M.length = k at *
  generalize gcols M = l at *
  go_enter Try.func51, Try.ntmps51
  go_wp2_with fail
  refine (HIS.out _ (by (repeat' (first | (with_reducible exact Below.refl _ _) | (with_reducible assumption) | (with_reducible refine Below.alloc ?_ ?_ _) | (with_reducible refine Below.drew ?_) | (with_reducible refine below_drewN ?_ _) | (with_reducible refine Below.setCell ?_ ?_ _) | (with_reducible refine Below.trans ?_ (Below.mono (by with_reducible assumption) ?_)) | (with_reducible exact Below.size (by with_reducible assumption)) | go_size)))).mono ?_; rintro e w1 ⟨rfl, hb1⟩
  have hw1 : Below w.heap.size w w1 := by (repeat' (first | (with_reducible exact Below.refl _ _) | (with_reducible assumption) | (with_reducible refine Below.alloc ?_ ?_ _) | (with_reducible refine Below.drew ?_) | (with_reducible refine below_drewN ?_ _) | (with_reducible refine Below.setCell ?_ ?_ _) | (with_reducible refine Below.trans ?_ (Below.mono (by with_reducible assumption) ?_)) | (with_reducible exact Below.size (by with_reducible assumption)) | go_size))
  have hz1 : w.heap.size < w1.heap.size := by have := hb1.size; simp at this; omega
  have x0 : w1.cell? ⟨w.heap.size, 0, none⟩ = some (.slice (some ⟨b, off, none⟩) k c) := (hb1.cell (p := ⟨w.heap.size, 0, none⟩) (by simp)).trans (by simp)
  have x1 : w1.cell? ⟨w.heap.size, 1, none⟩ = some (.slice (some ⟨b2, off2, none⟩) k c2) := (hb1.cell (p := ⟨w.heap.size, 1, none⟩) (by simp)).trans (by simp)
  have HK := Lib.hid (fun wr (h : Below w1.heap.size w1 wr) => show wr.cell? ⟨w.heap.size, 0, none⟩ = some (.slice (some ⟨b, off, none⟩) k c) ∧ wr.cell? ⟨w.heap.size, 1, none⟩ = some (.slice (some ⟨b2, off2, none⟩) k c2) from
    ⟨(h.cell (p := ⟨w.heap.size, 0, none⟩) hz1).trans x0, (h.cell (p := ⟨w.heap.size, 1, none⟩) hz1).trans x1⟩)
  have HW1 := Lib.hid hw1
  clear hb1 hw1 HIS
  go_wp2_with fail
  clear x0 x1
  go_loopw [4, 5, 6, 13, 20] (fun _ _ _ i _ wr => ∃ n : Nat, n ≤ k ∧ i = .int .i64 n ∧ Hid (∀ i, i < n → ∀ j, j < l → gE M i j + gE Q i j = gE M 0 0 + gE Q 0 0) ∧ Below w1.heap.size w1 wr) (fun _ _ _ i _ _ => k - (intOf i).toNat)
  case atStart => exact ⟨0, Nat.zero_le _, by go_num, fun a ha => absurd ha (Nat.not_lt_zero _), Below.refl _ _⟩
  case round =>
    obtain ⟨n, hn, rfl, hgood, hBe⟩ := hrel
    obtain ⟨e0, e1⟩ := HK.out wr hBe
    by_cases hlt : n < k
    · have HBE := Lib.hid hBe
      obtain ⟨r0, o0, d0, t0, y0⟩ := HA.out wr (HW1.out.trans (hBe.mono HW1.out.size)) n hlt
      clear hBe y0
      go_wp2_with fail
      clear e0 e1 t0
      go_loopw [6, 20] (fun _ i wr => ∃ j : Nat, j ≤ l ∧ i = .int .i64 j ∧ Hid (∀ i, i < j → gE M n i + gE Q n i = gE M 0 0 + gE Q 0 0) ∧ Below w1.heap.size w1 wr) (fun _ i _ => l - (intOf i).toNat)
      case atStart => exact ⟨0, Nat.zero_le _, by go_num, fun a ha => absurd ha (Nat.not_lt_zero _), HBE.out⟩
      case round =>
        obtain ⟨j, hj, rfl, hin, hBe⟩ := hrel
        obtain ⟨e0, e1⟩ := HK.out wr hBe
        obtain ⟨r1, o1, d1, t1, y1⟩ := HA.out wr (HW1.out.trans (hBe.mono HW1.out.size)) n hlt
        by_cases hltj : j < l
        · obtain ⟨r2, o2, d2, t2, y2⟩ := HB.out wr (HW1.out.trans (hBe.mono HW1.out.size)) n hlt
          obtain ⟨r3, o3, d3, t3, y3⟩ := HA.out wr (HW1.out.trans (hBe.mono HW1.out.size)) 0 (by omega)
          obtain ⟨r4, o4, d4, t4, y4⟩ := HB.out wr (HW1.out.trans (hBe.mono HW1.out.size)) 0 (by omega)
          have z1 := y1 j hltj
          have z2 := y2 j hltj
          have z3 := y3 0 (by omega)
          have z4 := y4 0 (by omega)
          simp only [Nat.add_zero] at t3 t4 z3 z4
          obtain ⟨⟨u1, u2⟩, u3, u4⟩ := HBD.out n j hlt hltj
          obtain ⟨⟨v1, v2⟩, v3, v4⟩ := HBD.out 0 0 (by omega) (by omega)
          have hnx : Hid (gE M n j + gE Q n j = gE M 0 0 + gE Q 0 0 → ∀ i, i < j + 1 → gE M n i + gE Q n i = gE M 0 0 + gE Q 0 0) := fun h i hi => by
            by_cases e : i = j
            · subst e; exact h
            · exact hin.out i (by omega)
          have hno : Hid (gE M n j + gE Q n j ≠ gE M 0 0 + gE Q 0 0 → A = false) := fun h => by
            cases A
            · rfl
            · exact absurd (HC.out.1 rfl n hlt j hltj) h
          have HBd := Lib.hid (fun n => below_drewN hBe n)
          clear y1 y2 y3 y4 hin hBe
          obtain ⟨p1, hp1⟩ : ∃ p, p = gE M n j := ⟨_, rfl⟩
          obtain ⟨p2, hp2⟩ : ∃ p, p = gE Q n j := ⟨_, rfl⟩
          obtain ⟨p3, hp3⟩ : ∃ p, p = gE M 0 0 := ⟨_, rfl⟩
          obtain ⟨p4, hp4⟩ : ∃ p, p = gE Q 0 0 := ⟨_, rfl⟩
          rw [← hp1] at z1 u1 u2
          rw [← hp2] at z2 u3 u4
          rw [← hp3] at z3 v1 v2
          rw [← hp4] at z4 v3 v4
          rw [← hp1, ← hp2, ← hp3, ← hp4] at hno
          have HNX : Hid (p1 + p2 = p3 + p4 → _) := Lib.hid (fun h => hnx.out (by rw [← hp1, ← hp2, ← hp3, ← hp4]; exact h))
          clear hp1 hp2 hp3 hp4 hnx
          have hs1 : wrap64 (p1 + p2) = p1 + p2 := IntWalk.wrap64_in _ (by omega)
          have hs2 : wrap64 (p3 + p4) = p3 + p4 := IntWalk.wrap64_in _ (by omega)
          by_cases he : p1 + p2 = p3 + p4
          · have hX := Lib.hid (HNX.out he)
            have hne : ((p1 + p2) != (p3 + p4)) = false := by simpa using he
            clear he hno u1 u2 u3 u4 v1 v2 v3 v4
            go_wp2_with fail
            go_quiet (fail)
            go_wp2_with fail
            go_roundw
            case rel => exact ⟨j + 1, by omega, by go_num, hX, HBd.out _⟩
            case measure => simp [intOf]; omega
          · have hO := Lib.hid (hno.out he)
            have hne : ((p1 + p2) != (p3 + p4)) = true := by simpa using he
            clear he hno u1 u2 u3 u4 v1 v2 v3 v4
            go_wp2_with fail
            go_quiet (fail)
            go_wp2_with fail
            go_ret2
            exact ⟨by rw [hO.out]; rfl, HW1.out.trans ((HBd.out _).mono HW1.out.size)⟩
        · obtain rfl : j = l := by omega
          have hX : Hid (∀ i, i < n + 1 → ∀ c, c < j → gE M i c + gE Q i c = gE M 0 0 + gE Q 0 0) := fun i hi => by
            by_cases e : i = n
            · subst e; exact hin.out
            · exact hgood.out i (by omega)
          have HBE2 := Lib.hid hBe
          clear hBe hin y1
          go_wp2_with fail
          go_roundw
          case rel => exact ⟨n + 1, by omega, by go_num, hX, HBE2.out⟩
          case measure => simp [intOf]; omega
    · obtain rfl : n = k := by omega
      have hO : Hid (A = true) := HC.out.2 hgood.out
      have HBE := Lib.hid hBe
      clear hBe hgood
      go_wp2_with fail
      go_ret2
      exact ⟨by rw [hO.out]; rfl, HW1.out.trans (HBE.out.mono HW1.out.size)⟩
end Go.Proofs.Ytnefglpcbekmhaa.PW
