/-
  Walks of the laws' own helpers: how much an argument holds, and copies of it.
  Walks of the laws' own helpers: equal lists, rows and problems.
-/
import Derived.Test.YtkdgnegnndedaaaPMem
namespace Go.Proofs.Ytkdgnegnndedaaa.PW
open Go.RowKit Go.Proofs.Ytkdgnegnndedaaa
open Go.Proofs.Ytkdgnegnndedaaa.PM

theorem szInt64S_any (a : Option Addr) (n cap : Nat) (left : Int) (w : World) (hm : n ≤ 9223372036854775807) (h0 : 0 ≤ left) (h1 : left ≤ 1048576) :
    Calls Try.prog 64 #[.slice a n cap, .int .i64 left] w fun e w' => e = .returned (.int .i64 (szI n left)) ∧ w = w' := by
  by_cases h : (n : Int) ≤ left
  · have e : szI n left = left - n := by unfold szI; rw [if_pos h]
    rw [e]
    clear e
    go_enter Try.func64, Try.ntmps64
    go_wp2
    go_ret
    exact ⟨rfl, rfl⟩
  · have e : szI n left = -1 := by unfold szI; rw [if_neg h]
    rw [e]
    clear e
    go_enter Try.func64, Try.ntmps64
    go_wp2
    go_ret
    exact ⟨rfl, rfl⟩

theorem szInt64SS_any (v : Value) (xss : List (List Int)) (left : Int) (w : World) (hr : PM.Rows w v xss) (h0 : 0 ≤ left) (h1 : left ≤ 1048576) :
    Calls Try.prog 63 #[v, .int .i64 left] w fun e w' => e = .returned (.int .i64 (szR xss left)) ∧ w = w' := by
  obtain ⟨a, cap, rfl, hc, hm0, hr⟩ := hr
  have hm := maxLen_le (Nat.le_trans hc hm0)
  clear hm0
  have hall := pre_all xss
  by_cases hn : (xss.length : Int) ≤ left
  · rcases hr with rfl | ⟨b, off, rfl, hlt, hcell⟩
    · have e : szR [] left = left := by unfold szR tot; simp; omega
      rw [e]
      clear e hall
      go_enter Try.func63, Try.ntmps63
      go_wp2
      go_rounds 1
      all_goals go_ret
      all_goals exact ⟨rfl, rfl⟩
    · have HA := Lib.hid hall
      clear hall
      have ht : decide (left - (xss.length : Int) < 0) = false := decide_eq_false (by omega)
      go_enter Try.func63, Try.ntmps63
      go_wp2
      go_loop [1, 5] (fun s i => ∃ k : Nat, k ≤ xss.length ∧ i = .int .i64 k ∧ s = .int .i64 (left - xss.length - pre xss k) ∧ 0 ≤ left - xss.length - pre xss k) (fun _ i => xss.length - (intOf i).toNat)
      case atStart => exact ⟨0, Nat.zero_le _, rfl, by rw [pre_zero]; simp, by rw [pre_zero]; omega⟩
      case round =>
        obtain ⟨k, hk, rfl, rfl, hp⟩ := hrel
        by_cases hlt2 : k < xss.length
        · obtain ⟨u, hu, ra, rc, rfl, hrl, hrm, _⟩ := hcell k hlt2
          have hps := pre_succ xss k hlt2
          have hle := pre_le xss (k + 1)
          clear hcell
          generalize xss.getD k [] = r at *
          have hrm' := maxLen_le (Nat.le_trans hrl hrm)
          clear hrm
          by_cases hfit : (r.length : Int) ≤ left - xss.length - pre xss k
          · have e : szI r.length (left - xss.length - pre xss k) = left - xss.length - pre xss (k + 1) := by unfold szI; rw [if_pos hfit, hps]; omega
            have HE := Lib.hid e
            have hge : 0 ≤ left - xss.length - pre xss (k + 1) := by rw [hps]; omega
            have hb1 : left - xss.length - pre xss (k + 1) ≤ 1048576 := by omega
            clear e hps hle
            go_wp2_with (go_at_call 64; refine (szInt64S_any _ _ _ _ _ hrm' (by omega) (by omega)).mono ?_; rw [HE.out]; rintro e w' ⟨rfl, rfl⟩)
            go_round
            case rel => exact ⟨k + 1, by omega, by go_num, rfl, hge⟩
            case measure => simp [intOf]; omega
          · have e : szI r.length (left - xss.length - pre xss k) = -1 := by unfold szI; rw [if_neg hfit]
            have HE := Lib.hid e
            have hend : szR xss left = -1 := by unfold szR tot; rw [if_neg]; have := HA.out; omega
            have HEnd := Lib.hid hend
            clear e hps hle hend
            go_wp2_with (go_at_call 64; refine (szInt64S_any _ _ _ _ _ hrm' (by omega) (by omega)).mono ?_; rw [HE.out]; rintro e w' ⟨rfl, rfl⟩)
            go_ret
            exact ⟨by rw [HEnd.out]; rfl, rfl⟩
        · obtain rfl : k = xss.length := by omega
          have hend : szR xss left = left - xss.length - pre xss xss.length := by
            have := HA.out
            unfold szR tot
            rw [if_pos (by omega)]; omega
          have HEnd := Lib.hid hend
          clear hend
          go_wp2
          go_ret
          exact ⟨by rw [HEnd.out]; rfl, rfl⟩
  · have e : szR xss left = -1 := by unfold szR tot; rw [if_neg (by omega)]
    rw [e]
    clear e
    go_enter Try.func63, Try.ntmps63
    go_wp2
    go_ret
    exact ⟨rfl, rfl⟩

theorem info_int : (Try.prog.info? 2).map (fun i => (i.zero, i.size, i.bytes)) = some (some (.int .i64 0), 1, 8) := by kernel_rfl
theorem info_ints : (Try.prog.info? 23).map (fun i => (i.zero, i.size, i.bytes)) = some (some (.slice none 0 0), 1, 24) := by kernel_rfl

/-- The first k of n numbers are written, the others 0. -/
def part (xs : List Int) (k : Nat) (j : Nat) : Value := .int .i64 (if j < k then xs.getD j 0 else 0)

structure Copied (w wr : World) (xs : List Int) (k : Nat) : Prop where
  below : Below w.heap.size w wr
  size : wr.heap.size = w.heap.size + 1
  row : wr.rowIs w.heap.size 2 xs.length (part xs k)

theorem copied_start (w : World) (xs : List Int) : Copied w (w.alloc (.cells (madeCells #[.int .i64 0] xs.length) 2)) xs 0 :=
  ⟨(Below.refl _ _).alloc (Nat.le_refl _) _, by simp, (World.rowIs_made w _ _ _).congr (fun i _ => by simp [part])⟩
theorem copied_step {w wr : World} {xs : List Int} {k : Nat} (h : Copied w wr xs k) : Copied w (wr.setCell ⟨w.heap.size, k, none⟩ (.int .i64 (xs.getD k 0))) xs (k + 1) := by
  refine ⟨h.below.setCell (Nat.le_refl _) _, by simp [h.size], (h.row.set k _).congr (fun j _ => ?_)⟩
  simp only [part]
  by_cases e : j = k
  · subst e; simp
  · rw [if_neg e]
    by_cases hlt : j < k
    · rw [if_pos hlt, if_pos (by omega)]
    · rw [if_neg hlt, if_neg (by omega)]
theorem copied_end {w wr : World} {xs : List Int} (h : Copied w wr xs xs.length) : IntBlk wr w.heap.size xs :=
  h.row.congr (fun i hi => by simp only [part]; rw [if_pos hi])

theorem copied_nil (w : World) : Copied w (w.alloc (.cells #[] 2)) [] 0 :=
  ⟨(Below.refl _ _).alloc (Nat.le_refl _) _, by simp, World.rowIs_alloc w #[] _ _ (fun i hi => absurd hi (Nat.not_lt_zero _))⟩

theorem toInt64S_any (v : Value) (xs : List Int) (w : World) (hx : Ints w v xs) (hn : xs.length ≤ 1048576) :
    Calls Try.prog 69 #[v] w fun e w' => e = .returned (.slice (some ⟨w.heap.size, 0, none⟩) xs.length xs.length) ∧ Copied w w' xs xs.length := by
  obtain ⟨a, cap, rfl, hc, hm, hI, hx⟩ := hx
  clear hm hI
  rcases hx with rfl | ⟨b, off, rfl, hlt, hcell⟩
  · have hmk : ∀ w, (Instr.makeSlice 23 (.int .i64 0) (.int .i64 0)).run Try.prog w = .ok (.slice (some ⟨w.heap.size, 0, none⟩) 0 0) (w.alloc (.cells #[] 2)) := fun _ => by kernel_rfl
    show Calls _ _ #[.slice a 0 cap] _ _
    go_enter Try.func69, Try.ntmps69
    go_wp2
    go_rounds 1
    all_goals go_ret
    all_goals exact ⟨rfl, copied_nil w⟩
  · have hmk := run_make_row' (P := Try.prog) 23 2 (.int .i64 0) 8 Try.underlying23 info_int rfl .i64 .i64 xs.length (by omega) (by omega)
    have HC := Lib.hid hcell
    clear hcell
    go_enter Try.func69, Try.ntmps69
    go_wp2
    go_loopw [4] (fun i wr => ∃ k : Nat, k ≤ xs.length ∧ i = .int .i64 k ∧ Copied w wr xs k) (fun i _ => xs.length - (intOf i).toNat)
    case atStart => exact ⟨0, Nat.zero_le _, rfl, copied_start w xs⟩
    case round =>
      obtain ⟨k, hk, rfl, hcp⟩ := hrel
      by_cases hlt2 : k < xs.length
      · have hu := (hcp.below.cell (p := ⟨b, off + k, none⟩) hlt).trans (HC.out k hlt2)
        have hv := hcp.row.cell hlt2
        have hf := hcp.row.frozen k
        have hst := copied_step hcp
        generalize hx : xs.getD k 0 = x at *
        generalize part xs k k = pv at *
        clear hx
        go_wp2
        go_roundw
        case rel => exact ⟨k + 1, by omega, by go_num, hst⟩
        case measure => simp [intOf]; omega
      · obtain rfl : k = xs.length := by omega
        go_wp2
        go_ret
        exact ⟨rfl, hcp⟩

/-- A copy of rows: the outer block, then a block a row. -/
def partR (b : Nat) (xss : List (List Int)) (k : Nat) (j : Nat) : Value :=
  if j < k then .slice (some ⟨b + 1 + j, 0, none⟩) (xss.getD j []).length (xss.getD j []).length else .slice none 0 0

structure CopiedR (w wr : World) (xss : List (List Int)) (k : Nat) : Prop where
  below : Below w.heap.size w wr
  size : wr.heap.size = w.heap.size + 1 + k
  top : wr.rowIs w.heap.size 23 xss.length (partR w.heap.size xss k)
  rows : ∀ j, j < k → IntBlk wr (w.heap.size + 1 + j) (xss.getD j [])

theorem copiedR_nil (w : World) : CopiedR w (w.alloc (.cells #[] 23)) [] 0 :=
  ⟨(Below.refl _ _).alloc (Nat.le_refl _) _, by simp, World.rowIs_alloc w #[] _ _ (fun i hi => absurd hi (Nat.not_lt_zero _)), fun j hj => absurd hj (Nat.not_lt_zero _)⟩
theorem copiedR_start (w : World) (xss : List (List Int)) : CopiedR w (w.alloc (.cells (madeCells #[.slice none 0 0] xss.length) 23)) xss 0 :=
  ⟨(Below.refl _ _).alloc (Nat.le_refl _) _, by simp, (World.rowIs_made w _ _ _).congr (fun i _ => by simp [partR]), fun j hj => absurd hj (Nat.not_lt_zero _)⟩
theorem copiedR_step {w wr w2 : World} {xss : List (List Int)} {k : Nat} (h : CopiedR w wr xss k) (h2 : Copied wr w2 (xss.getD k []) (xss.getD k []).length) :
    CopiedR w (w2.setCell ⟨w.heap.size, k, none⟩ (.slice (some ⟨wr.heap.size, 0, none⟩) (xss.getD k []).length (xss.getD k []).length)) xss (k + 1) := by
  have hs := h.size
  have hs2 := h2.size
  have hB : Below w.heap.size w w2 := h.below.trans (h2.below.mono h.below.size)
  have htop : w2.rowIs w.heap.size 23 xss.length (partR w.heap.size xss k) := h.top.of_block (h2.below.block _ (by omega))
  refine ⟨hB.setCell (Nat.le_refl _) _, by simp [hs, hs2]; omega, (htop.set k _).congr (fun j _ => ?_), fun j hj => ?_⟩
  · simp only [partR]
    by_cases e : j = k
    · subst e
      rw [if_pos rfl, if_pos (by omega), hs]
    · rw [if_neg e]
      by_cases hlt : j < k
      · rw [if_pos hlt, if_pos (by omega)]
      · rw [if_neg hlt, if_neg (by omega)]
  · by_cases e : j = k
    · subst e
      have := copied_end h2
      rw [hs] at this
      exact World.rowIs.setOther this (by show w.heap.size + 1 + j ≠ w.heap.size; omega) _
    · have hr : IntBlk w2 (w.heap.size + 1 + j) (xss.getD j []) := World.rowIs.of_block (h.rows j (by omega)) (h2.below.block _ (by omega))
      exact World.rowIs.setOther hr (by show w.heap.size + 1 + j ≠ w.heap.size; omega) _

theorem toInt64SS_any (v : Value) (xss : List (List Int)) (w : World) (hx : PM.Rows w v xss) (hn : tot xss ≤ 1048576) :
    Calls Try.prog 68 #[v] w fun e w' => e = .returned (.slice (some ⟨w.heap.size, 0, none⟩) xss.length xss.length) ∧ CopiedR w w' xss xss.length := by
  obtain ⟨a, cap, rfl, hc, hm, hx⟩ := hx
  clear hm
  have hnl : xss.length ≤ 1048576 := by unfold tot at hn; omega
  rcases hx with rfl | ⟨b, off, rfl, hlt, hcell⟩
  · have hmk : ∀ w, (Instr.makeSlice 22 (.int .i64 0) (.int .i64 0)).run Try.prog w = .ok (.slice (some ⟨w.heap.size, 0, none⟩) 0 0) (w.alloc (.cells #[] 23)) := fun _ => by kernel_rfl
    show Calls _ _ #[.slice a 0 cap] _ _
    clear hn
    go_enter Try.func68, Try.ntmps68
    go_wp2
    go_rounds 1
    all_goals go_ret
    all_goals exact ⟨rfl, copiedR_nil w⟩
  · have hmk := run_make_row' (P := Try.prog) 22 23 (.slice none 0 0) 24 Try.underlying22 info_ints rfl .i64 .i64 xss.length (by omega) (by omega)
    have HC := Lib.hid hcell
    have HN := Lib.hid hn
    clear hcell hn
    go_enter Try.func68, Try.ntmps68
    go_wp2
    go_loopw [4] (fun i wr => ∃ k : Nat, k ≤ xss.length ∧ i = .int .i64 k ∧ CopiedR w wr xss k) (fun i _ => xss.length - (intOf i).toNat)
    case atStart => exact ⟨0, Nat.zero_le _, rfl, copiedR_start w xss⟩
    case round =>
      obtain ⟨k, hk, rfl, hcp⟩ := hrel
      by_cases hlt2 : k < xss.length
      · obtain ⟨u, hu0, hI0⟩ := HC.out k hlt2
        have hu := (hcp.below.cell (p := ⟨b, off + k, none⟩) hlt).trans hu0
        have hI := hI0.below (w' := wr) hcp.below
        have hv := hcp.top.cell hlt2
        have hf := hcp.top.frozen k
        have hsz := hcp.size
        have hrl : (xss.getD k []).length ≤ 1048576 := by
          have h1 := pre_succ xss k hlt2
          have h2 := pre_le xss (k + 1)
          have h3 := HN.out
          unfold tot at h3
          omega
        have hst := fun (w2 : World) (h2 : Copied wr w2 (xss.getD k []) (xss.getD k []).length) => copiedR_step hcp h2
        have HST := Lib.hid hst
        have HCP := Lib.hid hcp
        clear hst hcp hI0 hu0
        generalize xss.getD k [] = r at *
        generalize partR w.heap.size xss k k = pv at *
        have hlt0 : w.heap.size < wr.heap.size := by omega
        have HS := Lib.hid hsz
        clear hsz
        go_wp2_with fail
        refine (toInt64S_any _ _ _ hI hrl).mono ?_
        rintro e w2 ⟨rfl, h2⟩
        have hv2 := (h2.below.cell (p := ⟨w.heap.size, k, none⟩) hlt0).trans hv
        have hf2 := (h2.below.frozen (p := ⟨w.heap.size, k, none⟩) hlt0).trans hf
        have hst := HST.out w2 h2
        clear hI hrl hv hf hu h2
        go_wp2_with fail
        go_roundw
        case rel => exact ⟨k + 1, by omega, by go_num, hst⟩
        case measure => simp [intOf]; omega
      · obtain rfl : k = xss.length := by omega
        go_wp2
        go_ret
        exact ⟨rfl, hcp⟩
end Go.Proofs.Ytkdgnegnndedaaa.PW
namespace Go.Proofs.Ytkdgnegnndedaaa.PW
open Go.RowKit Go.Proofs.Ytkdgnegnndedaaa
open Go.Proofs.Ytkdgnegnndedaaa.PM

theorem eqInt64S_same (v u : Value) (xs : List Int) (w : World) (hv : Ints w v xs) (hu : Ints w u xs) :
    Calls Try.prog 39 #[v, u] w fun e w' => e = .returned (.bool true) ∧ Below w.heap.size w w' := by
  obtain ⟨a, cap, rfl, hc, hm0, _, hx⟩ := hv
  obtain ⟨a2, cap2, rfl, hc2, _, _, hx2⟩ := hu
  have hm := maxLen_le (Nat.le_trans hc hm0)
  clear hm0 hc hc2
  rcases hx with rfl | ⟨b, off, rfl, hlt, hcell⟩
  · show Calls _ _ #[.slice a 0 cap, .slice a2 0 cap2] _ _
    go_enter Try.func39, Try.ntmps39
    go_wp2
    go_rounds 1
    all_goals go_ret
    all_goals exact ⟨rfl, Below.refl _ _⟩
  rcases hx2 with rfl | ⟨b2, off2, rfl, hlt2, hcell2⟩
  · show Calls _ _ #[.slice _ 0 cap, .slice a2 0 cap2] _ _
    go_enter Try.func39, Try.ntmps39
    go_wp2
    go_rounds 1
    all_goals go_ret
    all_goals exact ⟨rfl, Below.refl _ _⟩
  have HC := Lib.hid hcell
  have HC2 := Lib.hid hcell2
  clear hcell hcell2
  go_enter Try.func39, Try.ntmps39
  go_wp2
  go_loopw [5] (fun i wr => ∃ k : Nat, k ≤ xs.length ∧ i = .int .i64 k ∧ Below w.heap.size w wr) (fun i _ => xs.length - (intOf i).toNat)
  case atStart => exact ⟨0, Nat.zero_le _, rfl, Below.refl _ _⟩
  case round =>
    obtain ⟨k, hk, rfl, hb⟩ := hrel
    by_cases hlt3 : k < xs.length
    · have h1 := (hb.cell (p := ⟨b, off + k, none⟩) hlt).trans (HC.out k hlt3)
      have h2 := (hb.cell (p := ⟨b2, off2 + k, none⟩) hlt2).trans (HC2.out k hlt3)
      have i0 : (0 : Int) ≤ (k : Int) := by omega
      have i1 : (k : Int) < (xs.length : Int) := by omega
      generalize xs.getD k 0 = x at *
      go_wp2
      go_quiet (fail)
      go_wp2
      go_roundw
      case rel => exact ⟨k + 1, by omega, by go_num, below_drewN hb _⟩
      case measure => simp [intOf]; omega
    · obtain rfl : k = xs.length := by omega
      go_wp2
      go_ret
      exact ⟨rfl, hb⟩

theorem eqInt64SS_same (v u : Value) (xss : List (List Int)) (w : World) (hv : PM.Rows w v xss) (hu : PM.Rows w u xss) :
    Calls Try.prog 24 #[v, u] w fun e w' => e = .returned (.bool true) ∧ Below w.heap.size w w' := by
  obtain ⟨a, cap, rfl, hc, hm0, hx⟩ := hv
  obtain ⟨a2, cap2, rfl, hc2, _, hx2⟩ := hu
  have hm := maxLen_le (Nat.le_trans hc hm0)
  clear hm0 hc hc2
  rcases hx with rfl | ⟨b, off, rfl, hlt, hcell⟩
  · show Calls _ _ #[.slice a 0 cap, .slice a2 0 cap2] _ _
    go_enter Try.func24, Try.ntmps24
    go_wp2
    go_rounds 1
    all_goals go_ret
    all_goals exact ⟨rfl, Below.refl _ _⟩
  rcases hx2 with rfl | ⟨b2, off2, rfl, hlt2, hcell2⟩
  · show Calls _ _ #[.slice _ 0 cap, .slice a2 0 cap2] _ _
    go_enter Try.func24, Try.ntmps24
    go_wp2
    go_rounds 1
    all_goals go_ret
    all_goals exact ⟨rfl, Below.refl _ _⟩
  have HC := Lib.hid hcell
  have HC2 := Lib.hid hcell2
  clear hcell hcell2
  go_enter Try.func24, Try.ntmps24
  go_wp2
  go_loopw [5] (fun i wr => ∃ k : Nat, k ≤ xss.length ∧ i = .int .i64 k ∧ Below w.heap.size w wr) (fun i _ => xss.length - (intOf i).toNat)
  case atStart => exact ⟨0, Nat.zero_le _, rfl, Below.refl _ _⟩
  case round =>
    obtain ⟨k, hk, rfl, hb⟩ := hrel
    by_cases hlt3 : k < xss.length
    · obtain ⟨r1, h1, I1⟩ := HC.out k hlt3
      obtain ⟨r2, h2, I2⟩ := HC2.out k hlt3
      have g1 : ∀ w', Below w.heap.size w w' → w'.cell? ⟨b, off + k, none⟩ = some r1 := fun w' h => (h.cell (p := ⟨b, off + k, none⟩) hlt).trans h1
      have g2 : ∀ w', Below w.heap.size w w' → w'.cell? ⟨b2, off2 + k, none⟩ = some r2 := fun w' h => (h.cell (p := ⟨b2, off2 + k, none⟩) hlt2).trans h2
      have i0 : (0 : Int) ≤ (k : Int) := by omega
      have i1 : (k : Int) < (xss.length : Int) := by omega
      clear h1 h2
      generalize xss.getD k [] = r at *
      go_wp2
      go_region_held3 (fun w' => Below w.heap.size w w') ((repeat' (first | (with_reducible exact Below.refl _ _) | (with_reducible assumption) | (with_reducible refine Below.alloc ?_ ?_ _) | (with_reducible refine Below.drew ?_) | (with_reducible refine below_drewN ?_ _) | (with_reducible refine Below.setCell ?_ ?_ _) | (with_reducible refine Below.trans ?_ (Below.mono (by with_reducible assumption) ?_)) | (with_reducible exact Below.size (by with_reducible assumption)) | go_size)))
        (first | (go_at_call 39; refine (eqInt64S_same _ _ r _ (Ints.below I1 (by assumption)) (Ints.below I2 (by assumption))).mono ?_; rintro e w' ⟨rfl, hE⟩; have hE0 : Below w.heap.size w w' := (by (repeat' (first | (with_reducible exact Below.refl _ _) | (with_reducible assumption) | (with_reducible refine Below.alloc ?_ ?_ _) | (with_reducible refine Below.drew ?_) | (with_reducible refine below_drewN ?_ _) | (with_reducible refine Below.setCell ?_ ?_ _) | (with_reducible refine Below.trans ?_ (Below.mono (by with_reducible assumption) ?_)) | (with_reducible exact Below.size (by with_reducible assumption)) | go_size)))))
      go_wp2
      go_roundw
      case rel => exact ⟨k + 1, by omega, by go_num, hE0⟩
      case measure => simp [intOf]; omega
    · obtain rfl : k = xss.length := by omega
      go_wp2
      go_ret
      exact ⟨rfl, hb⟩
end Go.Proofs.Ytkdgnegnndedaaa.PW
