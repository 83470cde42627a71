/-
  Walks: rows that are windows of one list, in the program.
-/
import Derived.Test.YthnefjllijoobaaDoorPTb
namespace Go.Proofs.YthnefjllijoobaaDoor.PW
open Go.RowKit Go.Proofs.YthnefjllijoobaaDoor
open Go.Proofs.YthnefjllijoobaaDoor.PM Go.Proofs.YthnefjllijoobaaDoor.PX

theorem win_apart {wd i j k l : Nat} (hk : k < wd) (hl : l < wd) (e : i * wd + k = j * wd + l) : i = j ∧ k = l := by
  have h : ∀ a b x y : Nat, x < wd → y < wd → a < b → a * wd + x ≠ b * wd + y := fun a b x y hx _ hab c => by
    have := Nat.mul_le_mul_right wd (show a + 1 ≤ b by omega)
    rw [Nat.succ_mul] at this
    omega
  rcases Nat.lt_trichotomy i j with h1 | h1 | h1
  · exact absurd e (h i j k l hk hl h1)
  · subst h1; exact ⟨rfl, by omega⟩
  · exact absurd e.symm (h j i l k hl hk h1)
/-- While the windows are laid: the first k of them. -/
structure WinO (w wr : World) (n wd k : Nat) : Prop where
  size : wr.heap.size = w.heap.size + 1 + 1
  low : Below w.heap.size w wr
  cell : ∀ j, j < n * wd → wr.cell? ⟨w.heap.size, j, none⟩ = some (.int .i64 0) ∧ wr.frozen? ⟨w.heap.size, j, none⟩ = false
  top : ∀ i, i < n → (∃ u, wr.cell? ⟨w.heap.size + 1, i, none⟩ = some u) ∧ wr.frozen? ⟨w.heap.size + 1, i, none⟩ = false
  done : ∀ i, i < k → wr.cell? ⟨w.heap.size + 1, i, none⟩ = some (.slice (some ⟨w.heap.size, i * wd, none⟩) wd wd)
theorem WinO.start (w : World) (n wd : Nat) : WinO w ((w.alloc (.cells (madeCells #[.int .i64 0] (n * wd)) 2)).alloc (.cells (madeCells #[.slice none 0 0] n) 23)) n wd 0 := by
  have hs : (w.alloc (.cells (madeCells #[.int .i64 0] (n * wd)) 2)).heap.size = w.heap.size + 1 := by simp
  refine ⟨by simp, ((Below.refl _ _).alloc (Nat.le_refl _) _).alloc (by simp) _, fun j hj => ⟨?_, ?_⟩, fun i hi => ⟨⟨.slice none 0 0, ?_⟩, ?_⟩, fun i hi => absurd hi (Nat.not_lt_zero i)⟩
  · rw [World.cell?_alloc_lt _ _ _ (by simp), World.cell?_alloc_new]
    exact made_at _ _ _ hj w 2
  · rw [World.frozen?_alloc_past (hn := by simp)]; simp
  · rw [World.cell?_alloc_at (hn := hs.symm)]
    exact made_at _ _ _ hi w 23
  · rw [World.frozen?_alloc_at (hn := hs.symm)]
theorem WinO.step {w wr : World} {n wd k : Nat} (h : WinO w wr n wd k) (hk : k < n) : WinO w (wr.setCell ⟨w.heap.size + 1, k, none⟩ (.slice (some ⟨w.heap.size, k * wd, none⟩) wd wd)) n wd (k + 1) := by
  obtain ⟨u, hu⟩ := (h.top k hk).1
  refine ⟨by simpa using h.size, h.low.setCell (by simp) _, fun j hj => ⟨?_, by simpa using (h.cell j hj).2⟩, fun i hi => ⟨?_, by simpa using (h.top i hi).2⟩, fun i hi => ?_⟩
  · rw [World.cell?_setCell_far _ _ _ _ (by show w.heap.size + 1 ≠ w.heap.size; omega)]
    exact (h.cell j hj).1
  · exact cell?_setCell_some (h.top i hi).1.choose_spec
  · by_cases e : i = k
    · subst e; exact World.cell?_setCell_same _ _ _ hu
    · rw [World.cell?_setCell_other _ _ _ _ (fun c => e (by simp only [Addr.mk.injEq, and_true, true_and] at c; exact c.symm))]
      exact h.done i (by omega)
theorem WinO.tb {w wr : World} {n wd : Nat} (h : WinO w wr n wd n) : Tb w.heap.size wr (w.heap.size + 1) n wd (fun _ => w.heap.size) (fun i => i * wd) (fun _ => wd) (fun _ _ => 0) := by
  have hs := h.size
  refine ⟨by omega, by omega, fun _ _ => Nat.le_refl _, fun _ _ => by omega, fun _ _ => by omega, fun i hi => ⟨h.done i hi, (h.top i hi).2⟩, fun i k hi hk => h.cell _ ?_, fun i j k l _ _ hk hl _ e => win_apart hk hl e, fun _ _ => Nat.le_refl _⟩
  have := Nat.mul_le_mul_right wd (show i + 1 ≤ n by omega)
  rw [Nat.succ_mul] at this
  omega

set_option maxRecDepth 100000 in
set_option maxHeartbeats 4000000 in
theorem newTable_any (n wd : Nat) (hn1 : 1 ≤ n) (hn5 : n ≤ 5) (hwd : wd = 2 * n + 1) (w : World) :
    Calls Tryd.prog 88 #[.int .i64 n, .int .i64 wd] w fun e w' => e = .returned (.slice (some ⟨w.heap.size + 1, 0, none⟩) n n) ∧ Tb w.heap.size w' (w.heap.size + 1) n wd (fun _ => w.heap.size) (fun i => i * wd) (fun _ => wd) (fun _ _ => 0) ∧ Below w.heap.size w w' := by
  have HS := Lib.hid (WinO.start w n wd)
  have hmk := run_make_row' (P := Tryd.prog) 23 2 (.int .i64 0) 8 Tryd.underlying23 info_int rfl .i64 .i64 (n * wd) (by subst hwd; have := Nat.mul_le_mul hn5 (show 2 * n + 1 ≤ 11 by omega); omega) (by subst hwd; have := Nat.mul_le_mul hn5 (show 2 * n + 1 ≤ 11 by omega); omega)
  have hmk2 := run_make_row' (P := Tryd.prog) 22 23 (.slice none 0 0) 24 Tryd.underlying22 info_ints rfl .i64 .i64 n (by omega) (by omega)
  obtain rfl | rfl | rfl | rfl | rfl : n = 1 ∨ n = 2 ∨ n = 3 ∨ n = 4 ∨ n = 5 := by omega
  · subst hwd
    simp only [Nat.reduceMul, Nat.reduceAdd] at hmk HS ⊢
    simp only [Int.cast_ofNat_Int] at hmk hmk2
    go_enter Tryd.func88, Tryd.ntmps88
    go_wp2_with fail
    go_loopw [7, 16] (fun _ i wr => ∃ k : Nat, k ≤ 1 ∧ i = .int .i64 k ∧ WinO w wr 1 3 k) (fun _ i _ => 1 - (intOf i).toNat)
    case atStart => exact ⟨0, Nat.zero_le _, by go_num, HS.out⟩
    case round =>
      obtain ⟨k, hk, rfl, hR⟩ := hrel
      by_cases hlt : k < 1
      · obtain ⟨⟨u0, t0⟩, z0⟩ := hR.top k hlt
        have hst := hR.step hlt
        have HST := Lib.hid hst
        clear hst hR
        go_wp2_with fail
        go_roundw
        case rel => exact ⟨k + 1, by omega, by go_num, by rw [show (k + 1) * 3 - k * 3 = 3 by omega]; exact HST.out⟩
        case measure => simp [intOf]; omega
      · obtain rfl : k = 1 := by omega
        have HT := Lib.hid hR.tb
        have hlow := hR.low
        clear hR
        go_wp2_with fail
        go_ret
        exact ⟨rfl, HT.out, hlow⟩
  · subst hwd
    simp only [Nat.reduceMul, Nat.reduceAdd] at hmk HS ⊢
    simp only [Int.cast_ofNat_Int] at hmk hmk2
    go_enter Tryd.func88, Tryd.ntmps88
    go_wp2_with fail
    go_loopw [7, 16] (fun _ i wr => ∃ k : Nat, k ≤ 2 ∧ i = .int .i64 k ∧ WinO w wr 2 5 k) (fun _ i _ => 2 - (intOf i).toNat)
    case atStart => exact ⟨0, Nat.zero_le _, by go_num, HS.out⟩
    case round =>
      obtain ⟨k, hk, rfl, hR⟩ := hrel
      by_cases hlt : k < 2
      · obtain ⟨⟨u0, t0⟩, z0⟩ := hR.top k hlt
        have hst := hR.step hlt
        have HST := Lib.hid hst
        clear hst hR
        go_wp2_with fail
        go_roundw
        case rel => exact ⟨k + 1, by omega, by go_num, by rw [show (k + 1) * 5 - k * 5 = 5 by omega]; exact HST.out⟩
        case measure => simp [intOf]; omega
      · obtain rfl : k = 2 := by omega
        have HT := Lib.hid hR.tb
        have hlow := hR.low
        clear hR
        go_wp2_with fail
        go_ret
        exact ⟨rfl, HT.out, hlow⟩
  · subst hwd
    simp only [Nat.reduceMul, Nat.reduceAdd] at hmk HS ⊢
    simp only [Int.cast_ofNat_Int] at hmk hmk2
    go_enter Tryd.func88, Tryd.ntmps88
    go_wp2_with fail
    go_loopw [7, 16] (fun _ i wr => ∃ k : Nat, k ≤ 3 ∧ i = .int .i64 k ∧ WinO w wr 3 7 k) (fun _ i _ => 3 - (intOf i).toNat)
    case atStart => exact ⟨0, Nat.zero_le _, by go_num, HS.out⟩
    case round =>
      obtain ⟨k, hk, rfl, hR⟩ := hrel
      by_cases hlt : k < 3
      · obtain ⟨⟨u0, t0⟩, z0⟩ := hR.top k hlt
        have hst := hR.step hlt
        have HST := Lib.hid hst
        clear hst hR
        go_wp2_with fail
        go_roundw
        case rel => exact ⟨k + 1, by omega, by go_num, by rw [show (k + 1) * 7 - k * 7 = 7 by omega]; exact HST.out⟩
        case measure => simp [intOf]; omega
      · obtain rfl : k = 3 := by omega
        have HT := Lib.hid hR.tb
        have hlow := hR.low
        clear hR
        go_wp2_with fail
        go_ret
        exact ⟨rfl, HT.out, hlow⟩
  · subst hwd
    simp only [Nat.reduceMul, Nat.reduceAdd] at hmk HS ⊢
    simp only [Int.cast_ofNat_Int] at hmk hmk2
    go_enter Tryd.func88, Tryd.ntmps88
    go_wp2_with fail
    go_loopw [7, 16] (fun _ i wr => ∃ k : Nat, k ≤ 4 ∧ i = .int .i64 k ∧ WinO w wr 4 9 k) (fun _ i _ => 4 - (intOf i).toNat)
    case atStart => exact ⟨0, Nat.zero_le _, by go_num, HS.out⟩
    case round =>
      obtain ⟨k, hk, rfl, hR⟩ := hrel
      by_cases hlt : k < 4
      · obtain ⟨⟨u0, t0⟩, z0⟩ := hR.top k hlt
        have hst := hR.step hlt
        have HST := Lib.hid hst
        clear hst hR
        go_wp2_with fail
        go_roundw
        case rel => exact ⟨k + 1, by omega, by go_num, by rw [show (k + 1) * 9 - k * 9 = 9 by omega]; exact HST.out⟩
        case measure => simp [intOf]; omega
      · obtain rfl : k = 4 := by omega
        have HT := Lib.hid hR.tb
        have hlow := hR.low
        clear hR
        go_wp2_with fail
        go_ret
        exact ⟨rfl, HT.out, hlow⟩
  · subst hwd
    simp only [Nat.reduceMul, Nat.reduceAdd] at hmk HS ⊢
    simp only [Int.cast_ofNat_Int] at hmk hmk2
    go_enter Tryd.func88, Tryd.ntmps88
    go_wp2_with fail
    go_loopw [7, 16] (fun _ i wr => ∃ k : Nat, k ≤ 5 ∧ i = .int .i64 k ∧ WinO w wr 5 11 k) (fun _ i _ => 5 - (intOf i).toNat)
    case atStart => exact ⟨0, Nat.zero_le _, by go_num, HS.out⟩
    case round =>
      obtain ⟨k, hk, rfl, hR⟩ := hrel
      by_cases hlt : k < 5
      · obtain ⟨⟨u0, t0⟩, z0⟩ := hR.top k hlt
        have hst := hR.step hlt
        have HST := Lib.hid hst
        clear hst hR
        go_wp2_with fail
        go_roundw
        case rel => exact ⟨k + 1, by omega, by go_num, by rw [show (k + 1) * 11 - k * 11 = 11 by omega]; exact HST.out⟩
        case measure => simp [intOf]; omega
      · obtain rfl : k = 5 := by omega
        have HT := Lib.hid hR.tb
        have hlow := hR.low
        clear hR
        go_wp2_with fail
        go_ret
        exact ⟨rfl, HT.out, hlow⟩
end Go.Proofs.YthnefjllijoobaaDoor.PW
