/-
  Words for what lies in memory: slices of numbers, slices of such slices, as lists; and how they last while nothing older is written.
  Walks of the laws' own helpers: how much an argument holds, and copies of it.
  Walks of the laws' own helpers: equal lists, rows and problems.
  Plain mathematics of problems: what is a matrix, what is a problem. No program is named here.
  Walks: problems of the laws (sizes, copies, comparisons), and what is a matrix and a problem in the model and in the program.
  Walks: what is a matrix and a problem, in the model and in the program.
  Walks: what is a problem, in the model and in the program.
-/
import Derived.Test.YtgncaploccbfnaaChecked
import Derived.WalkKit
import Derived.ProofKit
import Derived.WalkLawsBesides
import Derived.WalkSpells
import Derived.IntWalk
import Derived.LoopTactic
import Derived.RegionTactic
import Derived.BigRegion
import Derived.BigQuiet
import Derived.Deep.QuietTactic
import Derived.Below
import Derived.Handy
import Derived.Outline
import Derived.Lib.Hide
import Derived.Deep.RegionHeld3
import Derived.Deep.RegionWith
import Derived.Deep.DeepCutAuto
import Derived.Deep.LoopGhost
import Derived.Deep.OwnRows
import Derived.Deep.Light
import Derived.Deep.Matrix
import Derived.KernelRfl
namespace Go.Proofs.Ytgncaploccbfnaa.PM
open Go.RowKit Go.Proofs.Ytgncaploccbfnaa

theorem ret_int {k : IntKind} {a b : Int} (h : a = b) : Ending.returned (.int k a) = .returned (.int k b) := by rw [h]
theorem ret_bool {a b : Bool} (h : a = b) : Ending.returned (.bool a) = .returned (.bool b) := by rw [h]
theorem bcell {W w1 : World} (hb : Below W.heap.size W w1) : (∀ b o, b < W.heap.size → w1.cell? ⟨b, o, none⟩ = W.cell? ⟨b, o, none⟩) ∧ (∀ b o, b < W.heap.size → w1.frozen? ⟨b, o, none⟩ = W.frozen? ⟨b, o, none⟩) :=
  ⟨fun b o h => hb.cell (p := ⟨b, o, none⟩) h, fun b o h => hb.frozen (p := ⟨b, o, none⟩) h⟩
theorem bcellG {W0 W w1 : World} (hb : Below W.heap.size W w1) (h0 : Below W0.heap.size W0 W) : (∀ b o, b < W0.heap.size → w1.cell? ⟨b, o, none⟩ = W0.cell? ⟨b, o, none⟩) ∧ (∀ b o, b < W0.heap.size → w1.frozen? ⟨b, o, none⟩ = W0.frozen? ⟨b, o, none⟩) :=
  bcell (h0.trans (hb.mono h0.size))

/-- A number of 64 bits. -/
def I64 (x : Int) : Prop := -9223372036854775808 ≤ x ∧ x ≤ 9223372036854775807

/-- The numbers xs lie in w from the address on. -/
def CellsAt (w : World) (b off : Nat) (xs : List Int) : Prop := ∀ i, i < xs.length → w.cell? ⟨b, off + i, none⟩ = some (.int .i64 (xs.getD i 0))

theorem maxLen_le {n : Nat} (h : n ≤ maxLen) : n ≤ 9223372036854775807 := by unfold maxLen at h; omega

/-- v is a slice of the numbers xs in w. -/
def Ints (w : World) (v : Value) (xs : List Int) : Prop :=
  ∃ (a : Option Addr) (cap : Nat), v = .slice a xs.length cap ∧ xs.length ≤ cap ∧ cap ≤ maxLen ∧ (∀ x ∈ xs, I64 x) ∧
    (xs = [] ∨ ∃ b off, a = some ⟨b, off, none⟩ ∧ b < w.heap.size ∧ CellsAt w b off xs)

/-- v is a slice of such slices. -/
def Rows (w : World) (v : Value) (xss : List (List Int)) : Prop :=
  ∃ (a : Option Addr) (cap : Nat), v = .slice a xss.length cap ∧ xss.length ≤ cap ∧ cap ≤ maxLen ∧
    (xss = [] ∨ ∃ b off, a = some ⟨b, off, none⟩ ∧ b < w.heap.size ∧ ∀ i, i < xss.length → ∃ u, w.cell? ⟨b, off + i, none⟩ = some u ∧ Ints w u (xss.getD i []))

theorem Ints.below {w w' : World} {v : Value} {xs : List Int} (h : Ints w v xs) (hb : Below w.heap.size w w') : Ints w' v xs := by
  obtain ⟨a, cap, h1, h2, h3, h4, h5⟩ := h
  refine ⟨a, cap, h1, h2, h3, h4, ?_⟩
  rcases h5 with h5 | ⟨b, off, e, hlt, hc⟩
  · exact .inl h5
  · exact .inr ⟨b, off, e, Nat.lt_of_lt_of_le hlt hb.size, fun i hi => (hb.cell (p := ⟨b, off + i, none⟩) hlt).trans (hc i hi)⟩

theorem Rows.below {w w' : World} {v : Value} {xss : List (List Int)} (h : Rows w v xss) (hb : Below w.heap.size w w') : Rows w' v xss := by
  obtain ⟨a, cap, h1, h2, h3, h5⟩ := h
  refine ⟨a, cap, h1, h2, h3, ?_⟩
  rcases h5 with h5 | ⟨b, off, e, hlt, hc⟩
  · exact .inl h5
  · refine .inr ⟨b, off, e, Nat.lt_of_lt_of_le hlt hb.size, fun i hi => ?_⟩
    obtain ⟨u, hu, hI⟩ := hc i hi
    exact ⟨u, (hb.cell (p := ⟨b, off + i, none⟩) hlt).trans hu, hI.below hb⟩

/-- A new block of numbers. -/
def IntBlk (w : World) (b : Nat) (xs : List Int) : Prop := w.rowIs b 2 xs.length (fun i => .int .i64 (xs.getD i 0))

theorem IntBlk.ints {w : World} {b : Nat} {xs : List Int} (h : IntBlk w b xs) (hx : ∀ x ∈ xs, I64 x) (hm : xs.length ≤ maxLen) : Ints w (.slice (some ⟨b, 0, none⟩) xs.length xs.length) xs := by
  refine ⟨_, _, rfl, Nat.le_refl _, hm, hx, .inr ⟨b, 0, rfl, h.lt, fun i hi => ?_⟩⟩
  rw [Nat.zero_add]
  exact h.cell hi

/-- What a row of numbers needs, and what all rows need together. -/
def tot (xss : List (List Int)) : Nat := xss.length + (xss.map List.length).sum
def szI (n : Nat) (left : Int) : Int := if (n : Int) ≤ left then left - n else -1
def szR (xss : List (List Int)) (left : Int) : Int := if (tot xss : Int) ≤ left then left - tot xss else -1
def szP (m : List (List Int)) (q : List Int) (left : Int) : Int := if (tot m : Int) + q.length ≤ left then left - tot m - q.length else -1

/-- The lengths of the first k rows. -/
def pre (xss : List (List Int)) (k : Nat) : Nat := ((xss.take k).map List.length).sum
theorem pre_zero (xss : List (List Int)) : pre xss 0 = 0 := by simp [pre]
theorem pre_succ (xss : List (List Int)) (k : Nat) (h : k < xss.length) : pre xss (k + 1) = pre xss k + (xss.getD k []).length := by
  unfold pre
  rw [List.take_succ_eq_append_getElem h, List.map_append, List.sum_append]
  simp [h]
theorem pre_all (xss : List (List Int)) : pre xss xss.length = (xss.map List.length).sum := by simp [pre]
theorem pre_le (xss : List (List Int)) (k : Nat) : pre xss k ≤ (xss.map List.length).sum := by
  unfold pre
  induction xss generalizing k with
  | nil => simp
  | cons x l ih =>
    cases k with
    | zero => simp
    | succ k => simp only [List.take_succ_cons, List.map_cons, List.sum_cons]; have := ih k; omega
end Go.Proofs.Ytgncaploccbfnaa.PM
namespace Go.Proofs.Ytgncaploccbfnaa.PW
open Go.RowKit Go.Proofs.Ytgncaploccbfnaa
open Go.Proofs.Ytgncaploccbfnaa.PM

theorem szInt64S_any (a : Option Addr) (n cap : Nat) (left : Int) (w : World) (hm : n ≤ 9223372036854775807) (h0 : 0 ≤ left) (h1 : left ≤ 1048576) :
    Calls Try.prog 63 #[.slice a n cap, .int .i64 left] w fun e w' => e = .returned (.int .i64 (szI n left)) ∧ w = w' := by
  by_cases h : (n : Int) ≤ left
  · have e : szI n left = left - n := by unfold szI; rw [if_pos h]
    rw [e]
    clear e
    go_enter Try.func63, Try.ntmps63
    go_wp2
    go_ret
    exact ⟨rfl, rfl⟩
  · have e : szI n left = -1 := by unfold szI; rw [if_neg h]
    rw [e]
    clear e
    go_enter Try.func63, Try.ntmps63
    go_wp2
    go_ret
    exact ⟨rfl, rfl⟩

theorem szInt64SS_any (v : Value) (xss : List (List Int)) (left : Int) (w : World) (hr : PM.Rows w v xss) (h0 : 0 ≤ left) (h1 : left ≤ 1048576) :
    Calls Try.prog 62 #[v, .int .i64 left] w fun e w' => e = .returned (.int .i64 (szR xss left)) ∧ w = w' := by
  obtain ⟨a, cap, rfl, hc, hm0, hr⟩ := hr
  have hm := maxLen_le (Nat.le_trans hc hm0)
  clear hm0
  have hall := pre_all xss
  by_cases hn : (xss.length : Int) ≤ left
  · rcases hr with rfl | ⟨b, off, rfl, hlt, hcell⟩
    · have e : szR [] left = left := by unfold szR tot; simp; omega
      rw [e]
      clear e hall
      go_enter Try.func62, Try.ntmps62
      go_wp2
      go_rounds 1
      all_goals go_ret
      all_goals exact ⟨rfl, rfl⟩
    · have HA := Lib.hid hall
      clear hall
      have ht : decide (left - (xss.length : Int) < 0) = false := decide_eq_false (by omega)
      go_enter Try.func62, Try.ntmps62
      go_wp2
      go_loop [1, 5] (fun s i => ∃ k : Nat, k ≤ xss.length ∧ i = .int .i64 k ∧ s = .int .i64 (left - xss.length - pre xss k) ∧ 0 ≤ left - xss.length - pre xss k) (fun _ i => xss.length - (intOf i).toNat)
      case atStart => exact ⟨0, Nat.zero_le _, rfl, by rw [pre_zero]; simp, by rw [pre_zero]; omega⟩
      case round =>
        obtain ⟨k, hk, rfl, rfl, hp⟩ := hrel
        by_cases hlt2 : k < xss.length
        · obtain ⟨u, hu, ra, rc, rfl, hrl, hrm, _⟩ := hcell k hlt2
          have hps := pre_succ xss k hlt2
          have hle := pre_le xss (k + 1)
          clear hcell
          generalize xss.getD k [] = r at *
          have hrm' := maxLen_le (Nat.le_trans hrl hrm)
          clear hrm
          by_cases hfit : (r.length : Int) ≤ left - xss.length - pre xss k
          · have e : szI r.length (left - xss.length - pre xss k) = left - xss.length - pre xss (k + 1) := by unfold szI; rw [if_pos hfit, hps]; omega
            have HE := Lib.hid e
            have hge : 0 ≤ left - xss.length - pre xss (k + 1) := by rw [hps]; omega
            have hb1 : left - xss.length - pre xss (k + 1) ≤ 1048576 := by omega
            clear e hps hle
            go_wp2_with (go_at_call 63; refine (szInt64S_any _ _ _ _ _ hrm' (by omega) (by omega)).mono ?_; rw [HE.out]; rintro e w' ⟨rfl, rfl⟩)
            go_round
            case rel => exact ⟨k + 1, by omega, by go_num, rfl, hge⟩
            case measure => simp [intOf]; omega
          · have e : szI r.length (left - xss.length - pre xss k) = -1 := by unfold szI; rw [if_neg hfit]
            have HE := Lib.hid e
            have hend : szR xss left = -1 := by unfold szR tot; rw [if_neg]; have := HA.out; omega
            have HEnd := Lib.hid hend
            clear e hps hle hend
            go_wp2_with (go_at_call 63; refine (szInt64S_any _ _ _ _ _ hrm' (by omega) (by omega)).mono ?_; rw [HE.out]; rintro e w' ⟨rfl, rfl⟩)
            go_ret
            exact ⟨by rw [HEnd.out]; rfl, rfl⟩
        · obtain rfl : k = xss.length := by omega
          have hend : szR xss left = left - xss.length - pre xss xss.length := by
            have := HA.out
            unfold szR tot
            rw [if_pos (by omega)]; omega
          have HEnd := Lib.hid hend
          clear hend
          go_wp2
          go_ret
          exact ⟨by rw [HEnd.out]; rfl, rfl⟩
  · have e : szR xss left = -1 := by unfold szR tot; rw [if_neg (by omega)]
    rw [e]
    clear e
    go_enter Try.func62, Try.ntmps62
    go_wp2
    go_ret
    exact ⟨rfl, rfl⟩

theorem info_int : (Try.prog.info? 2).map (fun i => (i.zero, i.size, i.bytes)) = some (some (.int .i64 0), 1, 8) := by kernel_rfl
theorem info_ints : (Try.prog.info? 23).map (fun i => (i.zero, i.size, i.bytes)) = some (some (.slice none 0 0), 1, 24) := by kernel_rfl

/-- The first k of n numbers are written, the others 0. -/
def part (xs : List Int) (k : Nat) (j : Nat) : Value := .int .i64 (if j < k then xs.getD j 0 else 0)

structure Copied (w wr : World) (xs : List Int) (k : Nat) : Prop where
  below : Below w.heap.size w wr
  size : wr.heap.size = w.heap.size + 1
  row : wr.rowIs w.heap.size 2 xs.length (part xs k)

theorem copied_start (w : World) (xs : List Int) : Copied w (w.alloc (.cells (madeCells #[.int .i64 0] xs.length) 2)) xs 0 :=
  ⟨(Below.refl _ _).alloc (Nat.le_refl _) _, by simp, (World.rowIs_made w _ _ _).congr (fun i _ => by simp [part])⟩
theorem copied_step {w wr : World} {xs : List Int} {k : Nat} (h : Copied w wr xs k) : Copied w (wr.setCell ⟨w.heap.size, k, none⟩ (.int .i64 (xs.getD k 0))) xs (k + 1) := by
  refine ⟨h.below.setCell (Nat.le_refl _) _, by simp [h.size], (h.row.set k _).congr (fun j _ => ?_)⟩
  simp only [part]
  by_cases e : j = k
  · subst e; simp
  · rw [if_neg e]
    by_cases hlt : j < k
    · rw [if_pos hlt, if_pos (by omega)]
    · rw [if_neg hlt, if_neg (by omega)]
theorem copied_end {w wr : World} {xs : List Int} (h : Copied w wr xs xs.length) : IntBlk wr w.heap.size xs :=
  h.row.congr (fun i hi => by simp only [part]; rw [if_pos hi])

theorem copied_nil (w : World) : Copied w (w.alloc (.cells #[] 2)) [] 0 :=
  ⟨(Below.refl _ _).alloc (Nat.le_refl _) _, by simp, World.rowIs_alloc w #[] _ _ (fun i hi => absurd hi (Nat.not_lt_zero _))⟩

theorem toInt64S_any (v : Value) (xs : List Int) (w : World) (hx : Ints w v xs) (hn : xs.length ≤ 1048576) :
    Calls Try.prog 68 #[v] w fun e w' => e = .returned (.slice (some ⟨w.heap.size, 0, none⟩) xs.length xs.length) ∧ Copied w w' xs xs.length := by
  obtain ⟨a, cap, rfl, hc, hm, hI, hx⟩ := hx
  clear hm hI
  rcases hx with rfl | ⟨b, off, rfl, hlt, hcell⟩
  · have hmk : ∀ w, (Instr.makeSlice 23 (.int .i64 0) (.int .i64 0)).run Try.prog w = .ok (.slice (some ⟨w.heap.size, 0, none⟩) 0 0) (w.alloc (.cells #[] 2)) := fun _ => by kernel_rfl
    show Calls _ _ #[.slice a 0 cap] _ _
    go_enter Try.func68, Try.ntmps68
    go_wp2
    go_rounds 1
    all_goals go_ret
    all_goals exact ⟨rfl, copied_nil w⟩
  · have hmk := run_make_row' (P := Try.prog) 23 2 (.int .i64 0) 8 Try.underlying23 info_int rfl .i64 .i64 xs.length (by omega) (by omega)
    have HC := Lib.hid hcell
    clear hcell
    go_enter Try.func68, Try.ntmps68
    go_wp2
    go_loopw [4] (fun i wr => ∃ k : Nat, k ≤ xs.length ∧ i = .int .i64 k ∧ Copied w wr xs k) (fun i _ => xs.length - (intOf i).toNat)
    case atStart => exact ⟨0, Nat.zero_le _, rfl, copied_start w xs⟩
    case round =>
      obtain ⟨k, hk, rfl, hcp⟩ := hrel
      by_cases hlt2 : k < xs.length
      · have hu := (hcp.below.cell (p := ⟨b, off + k, none⟩) hlt).trans (HC.out k hlt2)
        have hv := hcp.row.cell hlt2
        have hf := hcp.row.frozen k
        have hst := copied_step hcp
        generalize hx : xs.getD k 0 = x at *
        generalize part xs k k = pv at *
        clear hx
        go_wp2
        go_roundw
        case rel => exact ⟨k + 1, by omega, by go_num, hst⟩
        case measure => simp [intOf]; omega
      · obtain rfl : k = xs.length := by omega
        go_wp2
        go_ret
        exact ⟨rfl, hcp⟩

/-- A copy of rows: the outer block, then a block a row. -/
def partR (b : Nat) (xss : List (List Int)) (k : Nat) (j : Nat) : Value :=
  if j < k then .slice (some ⟨b + 1 + j, 0, none⟩) (xss.getD j []).length (xss.getD j []).length else .slice none 0 0

structure CopiedR (w wr : World) (xss : List (List Int)) (k : Nat) : Prop where
  below : Below w.heap.size w wr
  size : wr.heap.size = w.heap.size + 1 + k
  top : wr.rowIs w.heap.size 23 xss.length (partR w.heap.size xss k)
  rows : ∀ j, j < k → IntBlk wr (w.heap.size + 1 + j) (xss.getD j [])

theorem copiedR_nil (w : World) : CopiedR w (w.alloc (.cells #[] 23)) [] 0 :=
  ⟨(Below.refl _ _).alloc (Nat.le_refl _) _, by simp, World.rowIs_alloc w #[] _ _ (fun i hi => absurd hi (Nat.not_lt_zero _)), fun j hj => absurd hj (Nat.not_lt_zero _)⟩
theorem copiedR_start (w : World) (xss : List (List Int)) : CopiedR w (w.alloc (.cells (madeCells #[.slice none 0 0] xss.length) 23)) xss 0 :=
  ⟨(Below.refl _ _).alloc (Nat.le_refl _) _, by simp, (World.rowIs_made w _ _ _).congr (fun i _ => by simp [partR]), fun j hj => absurd hj (Nat.not_lt_zero _)⟩
theorem copiedR_step {w wr w2 : World} {xss : List (List Int)} {k : Nat} (h : CopiedR w wr xss k) (h2 : Copied wr w2 (xss.getD k []) (xss.getD k []).length) :
    CopiedR w (w2.setCell ⟨w.heap.size, k, none⟩ (.slice (some ⟨wr.heap.size, 0, none⟩) (xss.getD k []).length (xss.getD k []).length)) xss (k + 1) := by
  have hs := h.size
  have hs2 := h2.size
  have hB : Below w.heap.size w w2 := h.below.trans (h2.below.mono h.below.size)
  have htop : w2.rowIs w.heap.size 23 xss.length (partR w.heap.size xss k) := h.top.of_block (h2.below.block _ (by omega))
  refine ⟨hB.setCell (Nat.le_refl _) _, by simp [hs, hs2]; omega, (htop.set k _).congr (fun j _ => ?_), fun j hj => ?_⟩
  · simp only [partR]
    by_cases e : j = k
    · subst e
      rw [if_pos rfl, if_pos (by omega), hs]
    · rw [if_neg e]
      by_cases hlt : j < k
      · rw [if_pos hlt, if_pos (by omega)]
      · rw [if_neg hlt, if_neg (by omega)]
  · by_cases e : j = k
    · subst e
      have := copied_end h2
      rw [hs] at this
      exact World.rowIs.setOther this (by show w.heap.size + 1 + j ≠ w.heap.size; omega) _
    · have hr : IntBlk w2 (w.heap.size + 1 + j) (xss.getD j []) := World.rowIs.of_block (h.rows j (by omega)) (h2.below.block _ (by omega))
      exact World.rowIs.setOther hr (by show w.heap.size + 1 + j ≠ w.heap.size; omega) _

theorem toInt64SS_any (v : Value) (xss : List (List Int)) (w : World) (hx : PM.Rows w v xss) (hn : tot xss ≤ 1048576) :
    Calls Try.prog 67 #[v] w fun e w' => e = .returned (.slice (some ⟨w.heap.size, 0, none⟩) xss.length xss.length) ∧ CopiedR w w' xss xss.length := by
  obtain ⟨a, cap, rfl, hc, hm, hx⟩ := hx
  clear hm
  have hnl : xss.length ≤ 1048576 := by unfold tot at hn; omega
  rcases hx with rfl | ⟨b, off, rfl, hlt, hcell⟩
  · have hmk : ∀ w, (Instr.makeSlice 22 (.int .i64 0) (.int .i64 0)).run Try.prog w = .ok (.slice (some ⟨w.heap.size, 0, none⟩) 0 0) (w.alloc (.cells #[] 23)) := fun _ => by kernel_rfl
    show Calls _ _ #[.slice a 0 cap] _ _
    clear hn
    go_enter Try.func67, Try.ntmps67
    go_wp2
    go_rounds 1
    all_goals go_ret
    all_goals exact ⟨rfl, copiedR_nil w⟩
  · have hmk := run_make_row' (P := Try.prog) 22 23 (.slice none 0 0) 24 Try.underlying22 info_ints rfl .i64 .i64 xss.length (by omega) (by omega)
    have HC := Lib.hid hcell
    have HN := Lib.hid hn
    clear hcell hn
    go_enter Try.func67, Try.ntmps67
    go_wp2
    go_loopw [4] (fun i wr => ∃ k : Nat, k ≤ xss.length ∧ i = .int .i64 k ∧ CopiedR w wr xss k) (fun i _ => xss.length - (intOf i).toNat)
    case atStart => exact ⟨0, Nat.zero_le _, rfl, copiedR_start w xss⟩
    case round =>
      obtain ⟨k, hk, rfl, hcp⟩ := hrel
      by_cases hlt2 : k < xss.length
      · obtain ⟨u, hu0, hI0⟩ := HC.out k hlt2
        have hu := (hcp.below.cell (p := ⟨b, off + k, none⟩) hlt).trans hu0
        have hI := hI0.below (w' := wr) hcp.below
        have hv := hcp.top.cell hlt2
        have hf := hcp.top.frozen k
        have hsz := hcp.size
        have hrl : (xss.getD k []).length ≤ 1048576 := by
          have h1 := pre_succ xss k hlt2
          have h2 := pre_le xss (k + 1)
          have h3 := HN.out
          unfold tot at h3
          omega
        have hst := fun (w2 : World) (h2 : Copied wr w2 (xss.getD k []) (xss.getD k []).length) => copiedR_step hcp h2
        have HST := Lib.hid hst
        have HCP := Lib.hid hcp
        clear hst hcp hI0 hu0
        generalize xss.getD k [] = r at *
        generalize partR w.heap.size xss k k = pv at *
        have hlt0 : w.heap.size < wr.heap.size := by omega
        have HS := Lib.hid hsz
        clear hsz
        go_wp2_with fail
        refine (toInt64S_any _ _ _ hI hrl).mono ?_
        rintro e w2 ⟨rfl, h2⟩
        have hv2 := (h2.below.cell (p := ⟨w.heap.size, k, none⟩) hlt0).trans hv
        have hf2 := (h2.below.frozen (p := ⟨w.heap.size, k, none⟩) hlt0).trans hf
        have hst := HST.out w2 h2
        clear hI hrl hv hf hu h2
        go_wp2_with fail
        go_roundw
        case rel => exact ⟨k + 1, by omega, by go_num, hst⟩
        case measure => simp [intOf]; omega
      · obtain rfl : k = xss.length := by omega
        go_wp2
        go_ret
        exact ⟨rfl, hcp⟩
end Go.Proofs.Ytgncaploccbfnaa.PW
namespace Go.Proofs.Ytgncaploccbfnaa.PW
open Go.RowKit Go.Proofs.Ytgncaploccbfnaa
open Go.Proofs.Ytgncaploccbfnaa.PM

theorem eqInt64S_same (v u : Value) (xs : List Int) (w : World) (hv : Ints w v xs) (hu : Ints w u xs) :
    Calls Try.prog 71 #[v, u] w fun e w' => e = .returned (.bool true) ∧ Below w.heap.size w w' := by
  obtain ⟨a, cap, rfl, hc, hm0, _, hx⟩ := hv
  obtain ⟨a2, cap2, rfl, hc2, _, _, hx2⟩ := hu
  have hm := maxLen_le (Nat.le_trans hc hm0)
  clear hm0 hc hc2
  rcases hx with rfl | ⟨b, off, rfl, hlt, hcell⟩
  · show Calls _ _ #[.slice a 0 cap, .slice a2 0 cap2] _ _
    go_enter Try.func71, Try.ntmps71
    go_wp2
    go_rounds 1
    all_goals go_ret
    all_goals exact ⟨rfl, Below.refl _ _⟩
  rcases hx2 with rfl | ⟨b2, off2, rfl, hlt2, hcell2⟩
  · show Calls _ _ #[.slice _ 0 cap, .slice a2 0 cap2] _ _
    go_enter Try.func71, Try.ntmps71
    go_wp2
    go_rounds 1
    all_goals go_ret
    all_goals exact ⟨rfl, Below.refl _ _⟩
  have HC := Lib.hid hcell
  have HC2 := Lib.hid hcell2
  clear hcell hcell2
  go_enter Try.func71, Try.ntmps71
  go_wp2
  go_loopw [5] (fun i wr => ∃ k : Nat, k ≤ xs.length ∧ i = .int .i64 k ∧ Below w.heap.size w wr) (fun i _ => xs.length - (intOf i).toNat)
  case atStart => exact ⟨0, Nat.zero_le _, rfl, Below.refl _ _⟩
  case round =>
    obtain ⟨k, hk, rfl, hb⟩ := hrel
    by_cases hlt3 : k < xs.length
    · have h1 := (hb.cell (p := ⟨b, off + k, none⟩) hlt).trans (HC.out k hlt3)
      have h2 := (hb.cell (p := ⟨b2, off2 + k, none⟩) hlt2).trans (HC2.out k hlt3)
      have i0 : (0 : Int) ≤ (k : Int) := by omega
      have i1 : (k : Int) < (xs.length : Int) := by omega
      generalize xs.getD k 0 = x at *
      go_wp2
      go_quiet (fail)
      go_wp2
      go_roundw
      case rel => exact ⟨k + 1, by omega, by go_num, below_drewN hb _⟩
      case measure => simp [intOf]; omega
    · obtain rfl : k = xs.length := by omega
      go_wp2
      go_ret
      exact ⟨rfl, hb⟩

theorem eqInt64SS_same (v u : Value) (xss : List (List Int)) (w : World) (hv : PM.Rows w v xss) (hu : PM.Rows w u xss) :
    Calls Try.prog 24 #[v, u] w fun e w' => e = .returned (.bool true) ∧ Below w.heap.size w w' := by
  obtain ⟨a, cap, rfl, hc, hm0, hx⟩ := hv
  obtain ⟨a2, cap2, rfl, hc2, _, hx2⟩ := hu
  have hm := maxLen_le (Nat.le_trans hc hm0)
  clear hm0 hc hc2
  rcases hx with rfl | ⟨b, off, rfl, hlt, hcell⟩
  · show Calls _ _ #[.slice a 0 cap, .slice a2 0 cap2] _ _
    go_enter Try.func24, Try.ntmps24
    go_wp2
    go_rounds 1
    all_goals go_ret
    all_goals exact ⟨rfl, Below.refl _ _⟩
  rcases hx2 with rfl | ⟨b2, off2, rfl, hlt2, hcell2⟩
  · show Calls _ _ #[.slice _ 0 cap, .slice a2 0 cap2] _ _
    go_enter Try.func24, Try.ntmps24
    go_wp2
    go_rounds 1
    all_goals go_ret
    all_goals exact ⟨rfl, Below.refl _ _⟩
  have HC := Lib.hid hcell
  have HC2 := Lib.hid hcell2
  clear hcell hcell2
  go_enter Try.func24, Try.ntmps24
  go_wp2
  go_loopw [5] (fun i wr => ∃ k : Nat, k ≤ xss.length ∧ i = .int .i64 k ∧ Below w.heap.size w wr) (fun i _ => xss.length - (intOf i).toNat)
  case atStart => exact ⟨0, Nat.zero_le _, rfl, Below.refl _ _⟩
  case round =>
    obtain ⟨k, hk, rfl, hb⟩ := hrel
    by_cases hlt3 : k < xss.length
    · obtain ⟨r1, h1, I1⟩ := HC.out k hlt3
      obtain ⟨r2, h2, I2⟩ := HC2.out k hlt3
      have g1 : ∀ w', Below w.heap.size w w' → w'.cell? ⟨b, off + k, none⟩ = some r1 := fun w' h => (h.cell (p := ⟨b, off + k, none⟩) hlt).trans h1
      have g2 : ∀ w', Below w.heap.size w w' → w'.cell? ⟨b2, off2 + k, none⟩ = some r2 := fun w' h => (h.cell (p := ⟨b2, off2 + k, none⟩) hlt2).trans h2
      have i0 : (0 : Int) ≤ (k : Int) := by omega
      have i1 : (k : Int) < (xss.length : Int) := by omega
      clear h1 h2
      generalize xss.getD k [] = r at *
      go_wp2
      go_region_held3 (fun w' => Below w.heap.size w w') ((repeat' (first | (with_reducible exact Below.refl _ _) | (with_reducible assumption) | (with_reducible refine Below.alloc ?_ ?_ _) | (with_reducible refine Below.drew ?_) | (with_reducible refine below_drewN ?_ _) | (with_reducible refine Below.setCell ?_ ?_ _) | (with_reducible refine Below.trans ?_ (Below.mono (by with_reducible assumption) ?_)) | (with_reducible exact Below.size (by with_reducible assumption)) | go_size)))
        (first | (go_at_call 71; refine (eqInt64S_same _ _ r _ (Ints.below I1 (by assumption)) (Ints.below I2 (by assumption))).mono ?_; rintro e w' ⟨rfl, hE⟩; have hE0 : Below w.heap.size w w' := (by (repeat' (first | (with_reducible exact Below.refl _ _) | (with_reducible assumption) | (with_reducible refine Below.alloc ?_ ?_ _) | (with_reducible refine Below.drew ?_) | (with_reducible refine below_drewN ?_ _) | (with_reducible refine Below.setCell ?_ ?_ _) | (with_reducible refine Below.trans ?_ (Below.mono (by with_reducible assumption) ?_)) | (with_reducible exact Below.size (by with_reducible assumption)) | go_size)))))
      go_wp2
      go_roundw
      case rel => exact ⟨k + 1, by omega, by go_num, hE0⟩
      case measure => simp [intOf]; omega
    · obtain rfl : k = xss.length := by omega
      go_wp2
      go_ret
      exact ⟨rfl, hb⟩
end Go.Proofs.Ytgncaploccbfnaa.PW
namespace Go.Proofs.Ytgncaploccbfnaa.PM

theorem getD_at {α : Type} (l : List α) (d : α) {j : Nat} (h : j < l.length) : l.getD j d = l[j] := by simp [h]

/-- All numbers are of at most l in absolute value. -/
def wit (l : Int) (xs : List Int) : Bool := xs.all fun x => decide (-l ≤ x ∧ x ≤ l)
theorem wit_iff (l : Int) (xs : List Int) : wit l xs = true ↔ ∀ j, j < xs.length → -l ≤ xs.getD j 0 ∧ xs.getD j 0 ≤ l := by
  unfold wit
  rw [List.all_eq_true]
  constructor
  · intro h j hj
    have := h (xs.getD j 0) (by rw [getD_at _ _ hj]; exact List.getElem_mem hj)
    exact of_decide_eq_true this
  · intro h x hx
    obtain ⟨j, hj, rfl⟩ := List.mem_iff_getElem.1 hx
    have := h j hj
    rw [getD_at _ _ hj] at this
    exact decide_eq_true this
theorem wit_no {l : Int} {xs : List Int} {j : Nat} (hj : j < xs.length) (h : ¬ (-l ≤ xs.getD j 0 ∧ xs.getD j 0 ≤ l)) : wit l xs = false := by
  cases e : wit l xs with
  | false => rfl
  | true => exact absurd ((wit_iff l xs).1 e j hj) h

/-- A matrix: n rows of n numbers, of at most 20 in absolute value, n from 1 to 5. -/
def matB (m : List (List Int)) : Bool := decide (1 ≤ m.length ∧ m.length ≤ 5) && m.all fun r => decide (r.length = m.length) && wit 20 r
theorem matB_iff (m : List (List Int)) : matB m = true ↔ (1 ≤ m.length ∧ m.length ≤ 5) ∧ ∀ j, j < m.length → (m.getD j []).length = m.length ∧ wit 20 (m.getD j []) = true := by
  unfold matB
  rw [Bool.and_eq_true, List.all_eq_true]
  constructor
  · rintro ⟨h1, h2⟩
    refine ⟨of_decide_eq_true h1, fun j hj => ?_⟩
    have := h2 (m.getD j []) (by rw [getD_at _ _ hj]; exact List.getElem_mem hj)
    rw [Bool.and_eq_true] at this
    exact ⟨of_decide_eq_true this.1, this.2⟩
  · rintro ⟨h1, h2⟩
    refine ⟨decide_eq_true h1, fun r hr => ?_⟩
    obtain ⟨j, hj, rfl⟩ := List.mem_iff_getElem.1 hr
    have := h2 j hj
    rw [getD_at _ _ hj] at this
    rw [Bool.and_eq_true]
    exact ⟨decide_eq_true this.1, this.2⟩
theorem matB_size {m : List (List Int)} (h : ¬ (1 ≤ m.length ∧ m.length ≤ 5)) : matB m = false := by
  cases e : matB m with
  | false => rfl
  | true => exact absurd ((matB_iff m).1 e).1 h
theorem matB_no {m : List (List Int)} {j : Nat} (hj : j < m.length) (h : ¬ ((m.getD j []).length = m.length ∧ wit 20 (m.getD j []) = true)) : matB m = false := by
  cases e : matB m with
  | false => rfl
  | true => exact absurd (((matB_iff m).1 e).2 j hj) h

/-- A problem: a matrix of n, and n numbers of at most 100 in absolute value. -/
def isPB (m : List (List Int)) (q : List Int) : Bool := matB m && (decide (q.length = m.length) && wit 100 q)
theorem isPB_iff (m : List (List Int)) (q : List Int) : isPB m q = true ↔ matB m = true ∧ q.length = m.length ∧ wit 100 q = true := by
  unfold isPB
  rw [Bool.and_eq_true, Bool.and_eq_true]
  constructor
  · rintro ⟨h1, h2, h3⟩; exact ⟨h1, of_decide_eq_true h2, h3⟩
  · rintro ⟨h1, h2, h3⟩; exact ⟨h1, decide_eq_true h2, h3⟩
theorem isPB_no {m : List (List Int)} {q : List Int} (h : ¬ (matB m = true ∧ q.length = m.length ∧ wit 100 q = true)) : isPB m q = false := by
  cases e : isPB m q with
  | false => rfl
  | true => exact absurd ((isPB_iff m q).1 e) h
theorem isPB_mat {m : List (List Int)} {q : List Int} (h : matB m = false) : isPB m q = false := isPB_no (fun c => by rw [h] at c; exact absurd c.1 (by simp))
theorem mul_bd {a b A B : Int} (h1 : -A ≤ a) (h2 : a ≤ A) (h3 : -B ≤ b) (h4 : b ≤ B) : -(A * B) ≤ a * b ∧ a * b ≤ A * B := by
  have hA : 0 ≤ A := by omega
  have hB : 0 ≤ B := by omega
  have h : (a * b).natAbs ≤ (A * B).natAbs := by
    rw [Int.natAbs_mul, Int.natAbs_mul]
    exact Nat.mul_le_mul (by omega) (by omega)
  have h0 : 0 ≤ A * B := Int.mul_nonneg hA hB
  omega
end Go.Proofs.Ytgncaploccbfnaa.PM
namespace Go.Proofs.Ytgncaploccbfnaa.PW
open Go.RowKit Go.Proofs.Ytgncaploccbfnaa
open Go.Proofs.Ytgncaploccbfnaa.PM

theorem eqProblem_same (m q m2 q2 : Value) (M : List (List Int)) (Q : List Int) (w : World) (h1 : PM.Rows w m M) (h2 : Ints w q Q) (h3 : PM.Rows w m2 M) (h4 : Ints w q2 Q) :
    Calls Try.prog 19 #[.agg #[m, q], .agg #[m2, q2]] w fun e w' => e = .returned (.bool true) ∧ Below w.heap.size w w' := by
  have g1 := fun (w' : World) (h : Below w.heap.size w w') => h1.below h
  have g2 := fun (w' : World) (h : Below w.heap.size w w') => h2.below h
  have g3 := fun (w' : World) (h : Below w.heap.size w w') => h3.below h
  have g4 := fun (w' : World) (h : Below w.heap.size w w') => h4.below h
  obtain ⟨a1, c1, rfl, _⟩ := h1
  obtain ⟨a2, c2, rfl, _⟩ := h2
  obtain ⟨a3, c3, rfl, _⟩ := h3
  obtain ⟨a4, c4, rfl, _⟩ := h4
  go_enter Try.func19, Try.ntmps19
  go_wp2_with fail
  refine (eqInt64SS_same _ _ M _ (g1 _ (by (repeat' (first | (with_reducible exact Below.refl _ _) | (with_reducible assumption) | (with_reducible refine Below.alloc ?_ ?_ _) | (with_reducible refine Below.drew ?_) | (with_reducible refine below_drewN ?_ _) | (with_reducible refine Below.setCell ?_ ?_ _) | (with_reducible refine Below.trans ?_ (Below.mono (by with_reducible assumption) ?_)) | (with_reducible exact Below.size (by with_reducible assumption)) | go_size)))) (g3 _ (by (repeat' (first | (with_reducible exact Below.refl _ _) | (with_reducible assumption) | (with_reducible refine Below.alloc ?_ ?_ _) | (with_reducible refine Below.drew ?_) | (with_reducible refine below_drewN ?_ _) | (with_reducible refine Below.setCell ?_ ?_ _) | (with_reducible refine Below.trans ?_ (Below.mono (by with_reducible assumption) ?_)) | (with_reducible exact Below.size (by with_reducible assumption)) | go_size))))).mono ?_; rintro e w1 ⟨rfl, hb1⟩; obtain ⟨hc_hb1, hf_hb1⟩ := bcell hb1; obtain ⟨hcA_hb1, hfA_hb1⟩ := bcellG (W0 := w) hb1 (by (repeat' (first | (with_reducible exact Below.refl _ _) | (with_reducible assumption) | (with_reducible refine Below.alloc ?_ ?_ _) | (with_reducible refine Below.drew ?_) | (with_reducible refine below_drewN ?_ _) | (with_reducible refine Below.setCell ?_ ?_ _) | (with_reducible refine Below.trans ?_ (Below.mono (by with_reducible assumption) ?_)) | (with_reducible exact Below.size (by with_reducible assumption)) | go_size))); have hz_hb1 := hb1.size; (try simp at hz_hb1); (try simp only [Nat.add_one_le_iff] at hz_hb1); have hz0_hb1 : w.heap.size < w1.heap.size := (by omega); have hz1_hb1 : w.heap.size + 1 < w1.heap.size := (by omega)
  go_wp2_with fail
  refine (eqInt64S_same _ _ Q _ (g2 _ (by (repeat' (first | (with_reducible exact Below.refl _ _) | (with_reducible assumption) | (with_reducible refine Below.alloc ?_ ?_ _) | (with_reducible refine Below.drew ?_) | (with_reducible refine below_drewN ?_ _) | (with_reducible refine Below.setCell ?_ ?_ _) | (with_reducible refine Below.trans ?_ (Below.mono (by with_reducible assumption) ?_)) | (with_reducible exact Below.size (by with_reducible assumption)) | go_size)))) (g4 _ (by (repeat' (first | (with_reducible exact Below.refl _ _) | (with_reducible assumption) | (with_reducible refine Below.alloc ?_ ?_ _) | (with_reducible refine Below.drew ?_) | (with_reducible refine below_drewN ?_ _) | (with_reducible refine Below.setCell ?_ ?_ _) | (with_reducible refine Below.trans ?_ (Below.mono (by with_reducible assumption) ?_)) | (with_reducible exact Below.size (by with_reducible assumption)) | go_size))))).mono ?_; rintro e w2 ⟨rfl, hb2⟩; obtain ⟨hc_hb2, hf_hb2⟩ := bcell hb2; obtain ⟨hcA_hb2, hfA_hb2⟩ := bcellG (W0 := w1) hb2 (by (repeat' (first | (with_reducible exact Below.refl _ _) | (with_reducible assumption) | (with_reducible refine Below.alloc ?_ ?_ _) | (with_reducible refine Below.drew ?_) | (with_reducible refine below_drewN ?_ _) | (with_reducible refine Below.setCell ?_ ?_ _) | (with_reducible refine Below.trans ?_ (Below.mono (by with_reducible assumption) ?_)) | (with_reducible exact Below.size (by with_reducible assumption)) | go_size))); have hz_hb2 := hb2.size; (try simp at hz_hb2); (try simp only [Nat.add_one_le_iff] at hz_hb2); have hz0_hb2 : w.heap.size < w2.heap.size := (by omega); have hz1_hb2 : w.heap.size + 1 < w2.heap.size := (by omega)
  go_wp2_with fail
  go_ret
  refine ⟨rfl, ?_⟩
  (repeat' (first | (with_reducible exact Below.refl _ _) | (with_reducible assumption) | (with_reducible refine Below.alloc ?_ ?_ _) | (with_reducible refine Below.drew ?_) | (with_reducible refine below_drewN ?_ _) | (with_reducible refine Below.setCell ?_ ?_ _) | (with_reducible refine Below.trans ?_ (Below.mono (by with_reducible assumption) ?_)) | (with_reducible exact Below.size (by with_reducible assumption)) | go_size))

theorem rowIs_thru {w1 w2 : World} {b n : Nat} {t : TypeId} {f : Nat → Value} {p : Addr} {u : Value} (h : w1.rowIs b t n f) (hp : b ≠ p.block) (hb : Below (w1.setCell p u).heap.size (w1.setCell p u) w2) : w2.rowIs b t n f :=
  (h.setOther hp u).of_block (hb.block _ (h.setOther hp u).lt)

/-- A copy of a problem: all in new memory. -/
def CopyP (w : World) (M : List (List Int)) (Q : List Int) (e : Ending) (w' : World) : Prop :=
  ∃ g h : Nat, e = .returned (.agg #[.slice (some ⟨g, 0, none⟩) M.length M.length, .slice (some ⟨h, 0, none⟩) Q.length Q.length]) ∧ w.heap.size ≤ g ∧ h = g + 1 + M.length ∧
    w'.rowIs g 23 M.length (partR g M M.length) ∧ (∀ j, j < M.length → IntBlk w' (g + 1 + j) (M.getD j [])) ∧ IntBlk w' h Q ∧ Below w.heap.size w w'

theorem toProblem_any (m q : Value) (M : List (List Int)) (Q : List Int) (w : World) (h1 : PM.Rows w m M) (h2 : Ints w q Q) (hn : tot M ≤ 1048576) (hn2 : Q.length ≤ 1048576) :
    Calls Try.prog 17 #[.agg #[m, q]] w (CopyP w M Q) := by
  have g1 := fun (w' : World) (h : Below w.heap.size w w') => h1.below h
  have g2 := fun (w' : World) (h : Below w.heap.size w w') => h2.below h
  obtain ⟨a1, c1, rfl, _⟩ := h1
  obtain ⟨a2, c2, rfl, _⟩ := h2
  have HN := Lib.hid hn
  clear hn
  go_enter Try.func17, Try.ntmps17
  go_wp2_with fail
  refine (toInt64SS_any _ M _ (g1 _ (by (repeat' (first | (with_reducible exact Below.refl _ _) | (with_reducible assumption) | (with_reducible refine Below.alloc ?_ ?_ _) | (with_reducible refine Below.drew ?_) | (with_reducible refine below_drewN ?_ _) | (with_reducible refine Below.setCell ?_ ?_ _) | (with_reducible refine Below.trans ?_ (Below.mono (by with_reducible assumption) ?_)) | (with_reducible exact Below.size (by with_reducible assumption)) | go_size)))) HN.out).mono ?_; rintro e w1 ⟨rfl, hc1⟩; have hb1 := hc1.below; obtain ⟨hc_hb1, hf_hb1⟩ := bcell hb1; obtain ⟨hcA_hb1, hfA_hb1⟩ := bcellG (W0 := w) hb1 (by (repeat' (first | (with_reducible exact Below.refl _ _) | (with_reducible assumption) | (with_reducible refine Below.alloc ?_ ?_ _) | (with_reducible refine Below.drew ?_) | (with_reducible refine below_drewN ?_ _) | (with_reducible refine Below.setCell ?_ ?_ _) | (with_reducible refine Below.trans ?_ (Below.mono (by with_reducible assumption) ?_)) | (with_reducible exact Below.size (by with_reducible assumption)) | go_size))); have hz_hb1 := hb1.size; (try simp at hz_hb1); (try simp only [Nat.add_one_le_iff] at hz_hb1); have hz0_hb1 : w.heap.size < w1.heap.size := (by omega); have hz1_hb1 : w.heap.size + 1 < w1.heap.size := (by omega); have hz2_hb1 : w.heap.size + 1 + 1 < w1.heap.size := (by omega)
  go_wp2_with fail
  have hs1 := hc1.size
  simp only [World.size_alloc] at hs1
  have HS1 := Lib.hid hs1
  have HC1 := Lib.hid hc1
  clear hs1 hc1
  refine (toInt64S_any _ Q _ (g2 _ (by (repeat' (first | (with_reducible exact Below.refl _ _) | (with_reducible assumption) | (with_reducible refine Below.alloc ?_ ?_ _) | (with_reducible refine Below.drew ?_) | (with_reducible refine below_drewN ?_ _) | (with_reducible refine Below.setCell ?_ ?_ _) | (with_reducible refine Below.trans ?_ (Below.mono (by with_reducible assumption) ?_)) | (with_reducible exact Below.size (by with_reducible assumption)) | go_size)))) hn2).mono ?_; rintro e w2 ⟨rfl, hc2⟩; have hb2 := hc2.below; obtain ⟨hc_hb2, hf_hb2⟩ := bcell hb2; have hz_hb2 := hb2.size; (try simp at hz_hb2); (try simp only [Nat.add_one_le_iff] at hz_hb2)
  have hz0_hb2 : w.heap.size < w2.heap.size := by omega
  have hz1_hb2 : w.heap.size + 1 < w2.heap.size := by omega
  have hz2_hb2 : w.heap.size + 1 + 1 < w2.heap.size := by omega
  have HC2 := Lib.hid hc2
  clear hc2
  go_wp2_with fail
  refine bodyPost_ret (v := .agg #[.slice (some ⟨w.heap.size + 1 + 1 + 1, 0, none⟩) M.length M.length, .slice (some ⟨w1.heap.size, 0, none⟩) Q.length Q.length]) (by simp [*, results, Try.results17, go_sem]) rfl ?_
  have hs1 := HS1.out
  have ht := HC1.out.top
  have hr := HC1.out.rows
  have hq := copied_end HC2.out
  simp only [World.size_alloc] at ht hr
  simp only [World.size_setCell] at hq
  refine ⟨_, _, rfl, by omega, hs1, ?_, fun j hj => ?_, ?_, ?_⟩
  · refine World.rowIs.setOther (World.rowIs.setOther (World.rowIs.setOther (rowIs_thru ht ?_ hb2) ?_ _) ?_ _) ?_ _ <;> (show _ ≠ _; simp; try omega)
  · refine World.rowIs.setOther (World.rowIs.setOther (World.rowIs.setOther (rowIs_thru (hr j hj) ?_ hb2) ?_ _) ?_ _) ?_ _ <;> (show _ ≠ _; simp; try omega)
  · refine World.rowIs.setOther (World.rowIs.setOther (World.rowIs.setOther hq ?_ _) ?_ _) ?_ _ <;> (show _ ≠ _; simp; omega)
  · have h1 : Below w.heap.size w w1 := by (repeat' (first | (with_reducible exact Below.refl _ _) | (with_reducible assumption) | (with_reducible refine Below.alloc ?_ ?_ _) | (with_reducible refine Below.drew ?_) | (with_reducible refine below_drewN ?_ _) | (with_reducible refine Below.setCell ?_ ?_ _) | (with_reducible refine Below.trans ?_ (Below.mono (by with_reducible assumption) ?_)) | (with_reducible exact Below.size (by with_reducible assumption)) | go_size))
    have h2 : Below w.heap.size w w2 := (h1.setCell (by simp; omega) _).trans (hb2.mono (by simp; omega))
    exact ((h2.setCell (by simp; omega) _).setCell (by simp) _).setCell (by simp) _

/-- What a copy gives to a reader. -/
theorem rows_of_copy {w : World} {g : Nat} {M : List (List Int)} (ht : w.rowIs g 23 M.length (partR g M M.length)) (hr : ∀ j, j < M.length → IntBlk w (g + 1 + j) (M.getD j []))
    (hI : ∀ j, j < M.length → ∀ x ∈ M.getD j [], I64 x) (hn : tot M ≤ 1048576) : PM.Rows w (.slice (some ⟨g, 0, none⟩) M.length M.length) M := by
  have hl : M.length ≤ maxLen := by unfold tot at hn; unfold maxLen; omega
  refine ⟨_, _, rfl, Nat.le_refl _, hl, .inr ⟨g, 0, rfl, ht.lt, fun i hi => ?_⟩⟩
  refine ⟨_, by rw [Nat.zero_add]; exact ht.cell hi, ?_⟩
  simp only [partR]
  rw [if_pos hi]
  refine (hr i hi).ints (hI i hi) ?_
  have h1 := pre_succ M i hi
  have h2 := pre_le M (i + 1)
  unfold tot at hn
  unfold maxLen
  omega

theorem szProblem_any (m q : Value) (M : List (List Int)) (Q : List Int) (w : World) (h1 : PM.Rows w m M) (h2 : Ints w q Q) :
    Calls Try.prog 15 #[.agg #[m, q], .int .i64 1048576] w fun e w' => e = .returned (.int .i64 (szP M Q 1048576)) ∧ Below w.heap.size w w' := by
  have g1 := fun (w' : World) (h : Below w.heap.size w w') => h1.below h
  obtain ⟨a1, c1, rfl, _⟩ := h1
  obtain ⟨a2, c2, rfl, hl2, hm2, _⟩ := h2
  have hm := maxLen_le (Nat.le_trans hl2 hm2)
  clear hl2 hm2
  by_cases hA : (tot M : Int) ≤ 1048576
  · have e1 : szR M 1048576 = 1048576 - tot M := by unfold szR; rw [if_pos hA]
    have E1 := Lib.hid e1
    clear e1
    by_cases hB : (tot M : Int) + Q.length ≤ 1048576
    · have e2 : szI Q.length (1048576 - tot M) = 1048576 - tot M - Q.length := by unfold szI; rw [if_pos (by omega)]
      have e3 : szP M Q 1048576 = 1048576 - tot M - Q.length := by unfold szP; rw [if_pos hB]
      rw [e3]
      have E2 := Lib.hid e2
      clear e2 e3
      go_enter Try.func15, Try.ntmps15
      go_wp2_with fail
      refine (szInt64SS_any _ M _ _ (g1 _ (by (repeat' (first | (with_reducible exact Below.refl _ _) | (with_reducible assumption) | (with_reducible refine Below.alloc ?_ ?_ _) | (with_reducible refine Below.drew ?_) | (with_reducible refine below_drewN ?_ _) | (with_reducible refine Below.setCell ?_ ?_ _) | (with_reducible refine Below.trans ?_ (Below.mono (by with_reducible assumption) ?_)) | (with_reducible exact Below.size (by with_reducible assumption)) | go_size)))) (by omega) (by omega)).mono ?_; rw [E1.out]; rintro e w1 ⟨rfl, rfl⟩
      go_wp2_with fail
      refine (szInt64S_any _ _ _ _ _ hm (by omega) (by omega)).mono ?_; rw [E2.out]; rintro e w1 ⟨rfl, rfl⟩
      go_wp2_with fail
      go_ret
      exact ⟨rfl, by (repeat' (first | (with_reducible exact Below.refl _ _) | (with_reducible assumption) | (with_reducible refine Below.alloc ?_ ?_ _) | (with_reducible refine Below.drew ?_) | (with_reducible refine below_drewN ?_ _) | (with_reducible refine Below.setCell ?_ ?_ _) | (with_reducible refine Below.trans ?_ (Below.mono (by with_reducible assumption) ?_)) | (with_reducible exact Below.size (by with_reducible assumption)) | go_size))⟩
    · have e2 : szI Q.length (1048576 - tot M) = -1 := by unfold szI; rw [if_neg (by omega)]
      have e3 : szP M Q 1048576 = -1 := by unfold szP; rw [if_neg hB]
      rw [e3]
      have E2 := Lib.hid e2
      clear e2 e3
      go_enter Try.func15, Try.ntmps15
      go_wp2_with fail
      refine (szInt64SS_any _ M _ _ (g1 _ (by (repeat' (first | (with_reducible exact Below.refl _ _) | (with_reducible assumption) | (with_reducible refine Below.alloc ?_ ?_ _) | (with_reducible refine Below.drew ?_) | (with_reducible refine below_drewN ?_ _) | (with_reducible refine Below.setCell ?_ ?_ _) | (with_reducible refine Below.trans ?_ (Below.mono (by with_reducible assumption) ?_)) | (with_reducible exact Below.size (by with_reducible assumption)) | go_size)))) (by omega) (by omega)).mono ?_; rw [E1.out]; rintro e w1 ⟨rfl, rfl⟩
      go_wp2_with fail
      refine (szInt64S_any _ _ _ _ _ hm (by omega) (by omega)).mono ?_; rw [E2.out]; rintro e w1 ⟨rfl, rfl⟩
      go_wp2_with fail
      go_ret
      exact ⟨rfl, by (repeat' (first | (with_reducible exact Below.refl _ _) | (with_reducible assumption) | (with_reducible refine Below.alloc ?_ ?_ _) | (with_reducible refine Below.drew ?_) | (with_reducible refine below_drewN ?_ _) | (with_reducible refine Below.setCell ?_ ?_ _) | (with_reducible refine Below.trans ?_ (Below.mono (by with_reducible assumption) ?_)) | (with_reducible exact Below.size (by with_reducible assumption)) | go_size))⟩
  · have e1 : szR M 1048576 = -1 := by unfold szR; rw [if_neg hA]
    have e3 : szP M Q 1048576 = -1 := by unfold szP; rw [if_neg (by omega)]
    rw [e3]
    have E1 := Lib.hid e1
    clear e1 e3
    go_enter Try.func15, Try.ntmps15
    go_wp2_with fail
    refine (szInt64SS_any _ M _ _ (g1 _ (by (repeat' (first | (with_reducible exact Below.refl _ _) | (with_reducible assumption) | (with_reducible refine Below.alloc ?_ ?_ _) | (with_reducible refine Below.drew ?_) | (with_reducible refine below_drewN ?_ _) | (with_reducible refine Below.setCell ?_ ?_ _) | (with_reducible refine Below.trans ?_ (Below.mono (by with_reducible assumption) ?_)) | (with_reducible exact Below.size (by with_reducible assumption)) | go_size)))) (by omega) (by omega)).mono ?_; rw [E1.out]; rintro e w1 ⟨rfl, rfl⟩
    go_wp2_with fail
    go_ret
    exact ⟨rfl, by (repeat' (first | (with_reducible exact Below.refl _ _) | (with_reducible assumption) | (with_reducible refine Below.alloc ?_ ?_ _) | (with_reducible refine Below.drew ?_) | (with_reducible refine below_drewN ?_ _) | (with_reducible refine Below.setCell ?_ ?_ _) | (with_reducible refine Below.trans ?_ (Below.mono (by with_reducible assumption) ?_)) | (with_reducible exact Below.size (by with_reducible assumption)) | go_size))⟩
end Go.Proofs.Ytgncaploccbfnaa.PW
namespace Go.Proofs.Ytgncaploccbfnaa.PW
open Go.RowKit Go.Proofs.Ytgncaploccbfnaa
open Go.Proofs.Ytgncaploccbfnaa.PM

theorem l01In_is (n lo hi : Int) (b : Bool) (w : World) (h : decide (lo ≤ n ∧ n ≤ hi) = b) :
    Calls Try.prog 65 #[.int .i64 n, .int .i64 lo, .int .i64 hi] w fun e w' => e = .returned (.bool b) ∧ w = w' := by
  subst h
  go_enter Try.func65, Try.ntmps65
  go_wp2
  all_goals (go_ret; exact ⟨ret_bool (by simp; try omega), rfl⟩)

theorem isWithin_is (x l : Int) (b : Bool) (w : World) (h0 : 0 ≤ l) (h1 : l ≤ 1000000000000) (h : decide (-l ≤ x ∧ x ≤ l) = b) :
    Calls Try.prog 127 #[.int .i64 x, .int .i64 l] w fun e w' => e = .returned (.bool b) ∧ w = w' := by
  subst h
  go_enter Try.func127, Try.ntmps127
  go_wp2
  all_goals (go_ret; exact ⟨ret_bool (by simp; try omega), rfl⟩)

theorem areWithin_any (v : Value) (xs : List Int) (l : Int) (w : World) (hv : Ints w v xs) (h0 : 0 ≤ l) (h1 : l ≤ 1000000000000) :
    Calls Try.prog 95 #[v, .int .i64 l] w fun e w' => e = .returned (.bool (wit l xs)) ∧ w = w' := by
  obtain ⟨a, cap, rfl, hc, hm0, _, hx⟩ := hv
  have hm := maxLen_le (Nat.le_trans hc hm0)
  clear hm0 hc
  rcases hx with rfl | ⟨b, off, rfl, hlt, hcell⟩
  · show Calls _ _ #[.slice a 0 cap, .int .i64 l] _ _
    go_enter Try.func95, Try.ntmps95
    go_wp2
    go_rounds 1
    all_goals go_ret
    all_goals exact ⟨rfl, rfl⟩
  have HC := Lib.hid hcell
  clear hcell
  have HI := Lib.hid (wit_iff l xs)
  go_enter Try.func95, Try.ntmps95
  go_wp2
  go_loop [6, 9] (fun _ i => ∃ k : Nat, k ≤ xs.length ∧ i = .int .i64 k ∧ Hid (∀ j, j < k → -l ≤ xs.getD j 0 ∧ xs.getD j 0 ≤ l)) (fun _ i => xs.length - (intOf i).toNat)
  case atStart => exact ⟨0, Nat.zero_le _, rfl, fun j hj => absurd hj (Nat.not_lt_zero _)⟩
  case round =>
    obtain ⟨k, hk, rfl, hrng⟩ := hrel
    by_cases hlt3 : k < xs.length
    · have h1 := HC.out k hlt3
      by_cases hin : -l ≤ xs.getD k 0 ∧ xs.getD k 0 ≤ l
      · have hnext : Hid (∀ j, j < k + 1 → -l ≤ xs.getD j 0 ∧ xs.getD j 0 ≤ l) := fun j hj => by
          by_cases e : j = k
          · subst e; exact hin
          · exact hrng.out j (by omega)
        have hd : Hid (decide (-l ≤ xs.getD k 0 ∧ xs.getD k 0 ≤ l) = true) := decide_eq_true hin
        clear hin
        generalize xs.getD k 0 = x at *
        go_wp2_with (go_at_call 127; refine (isWithin_is _ _ _ _ (by omega) (by omega) hd.out).mono ?_; rintro e w' ⟨rfl, rfl⟩)
        go_round
        case rel => exact ⟨k + 1, by omega, by go_num, hnext⟩
        case measure => simp [intOf]; omega
      · have hno : Hid (wit l xs = false) := wit_no hlt3 hin
        have hd : Hid (decide (-l ≤ xs.getD k 0 ∧ xs.getD k 0 ≤ l) = false) := decide_eq_false hin
        clear hin
        generalize xs.getD k 0 = x at *
        go_wp2_with (go_at_call 127; refine (isWithin_is _ _ _ _ (by omega) (by omega) hd.out).mono ?_; rintro e w' ⟨rfl, rfl⟩)
        go_ret
        exact ⟨by rw [hno.out]; rfl, rfl⟩
    · obtain rfl : k = xs.length := by omega
      have hyes : Hid (wit l xs = true) := HI.out.2 hrng.out
      go_wp2
      go_ret
      exact ⟨by rw [hyes.out]; rfl, rfl⟩

theorem l01Matrix_any (v : Value) (M : List (List Int)) (w : World) (hv : PM.Rows w v M) :
    Calls Try.prog 120 #[v] w fun e w' => e = .returned (.bool (matB M)) ∧ w = w' := by
  obtain ⟨a, cap, rfl, hc, hm0, hx⟩ := hv
  have hm := maxLen_le (Nat.le_trans hc hm0)
  clear hm0 hc
  by_cases hs : 1 ≤ M.length ∧ M.length ≤ 5
  case neg =>
    rw [matB_size hs]
    clear hx
    by_cases hs1 : M.length < 1
    · obtain hs0 : M.length = 0 := by omega
      rw [hs0]
      clear hs hs1 hs0 hm
      go_enter Try.func120, Try.ntmps120
      go_wp2
      go_ret
      exact ⟨rfl, rfl⟩
    · have hs5 : 5 < M.length := by omega
      clear hs
      generalize M.length = n at *
      go_enter Try.func120, Try.ntmps120
      go_wp2
      go_ret
      exact ⟨rfl, rfl⟩
  obtain ⟨hs1, hs5⟩ := hs
  rcases hx with rfl | ⟨b, off, rfl, hlt, hcell⟩
  · simp at hs1
  have HC := Lib.hid hcell
  clear hcell
  have HI := Lib.hid (matB_iff M)
  obtain ⟨n, hn⟩ : ∃ n, n = M.length := ⟨_, rfl⟩
  rw [← hn] at hs1 hs5 hm ⊢
  have HN := Lib.hid hn
  clear hn
  go_enter Try.func120, Try.ntmps120
  go_wp2
  go_loop [4, 5] (fun i _ => ∃ k : Nat, k ≤ n ∧ i = .int .i64 k ∧ Hid (∀ j, j < k → (M.getD j []).length = n ∧ wit 20 (M.getD j []) = true)) (fun i _ => n - (intOf i).toNat)
  case atStart => exact ⟨0, Nat.zero_le _, rfl, fun j hj => absurd hj (Nat.not_lt_zero _)⟩
  case round =>
    obtain ⟨k, hk, rfl, hrows⟩ := hrel
    by_cases hlt3 : k < n
    · obtain ⟨u, hu, ra, rc, rfl, hrl, hrm, _, hrx⟩ := HC.out k (by rw [← HN.out]; exact hlt3)
      have hrm' := maxLen_le (Nat.le_trans hrl hrm)
      clear hrl hrm
      have hkM : k < M.length := by rw [← HN.out]; exact hlt3
      have HK := Lib.hid hkM
      clear hkM
      by_cases hlen : (M.getD k []).length = n
      · have hrow := Lib.hid (wit_iff 20 (M.getD k []))
        have hstep : Hid (wit 20 (M.getD k []) = true → ∀ j, j < k + 1 → (M.getD j []).length = n ∧ wit 20 (M.getD j []) = true) := fun hw j hj => by
          by_cases e : j = k
          · subst e; exact ⟨hlen, hw⟩
          · exact hrows.out j (by omega)
        have hbad : Hid (wit 20 (M.getD k []) = false → matB M = false) := fun hw => matB_no HK.out (by rw [hw]; simp)
        clear hrows
        generalize M.getD k [] = r at *
        rcases hrx with rfl | ⟨b2, off2, rfl, hlt2, hcell2⟩
        · simp at hlen; omega
        rw [hlen] at hu hrm'
        have HL := Lib.hid hlen
        have HC2 := Lib.hid hcell2
        clear hlen hcell2
        go_wp2
        go_loop [5] (fun i => ∃ c : Nat, c ≤ n ∧ i = .int .i64 c ∧ Hid (∀ j, j < c → -20 ≤ r.getD j 0 ∧ r.getD j 0 ≤ 20)) (fun i => n - (intOf i).toNat)
        case atStart => exact ⟨0, Nat.zero_le _, rfl, fun j hj => absurd hj (Nat.not_lt_zero _)⟩
        case round =>
          obtain ⟨c, hc, rfl, hrng⟩ := hrel
          by_cases hlt4 : c < n
          · have hcr : c < r.length := by rw [HL.out]; exact hlt4
            have h1 := HC2.out c hcr
            by_cases hin : -20 ≤ r.getD c 0 ∧ r.getD c 0 ≤ 20
            · have hnext : Hid (∀ j, j < c + 1 → -20 ≤ r.getD j 0 ∧ r.getD j 0 ≤ 20) := fun j hj => by
                by_cases e : j = c
                · subst e; exact hin
                · exact hrng.out j (by omega)
              have hd : Hid (decide (-20 ≤ r.getD c 0 ∧ r.getD c 0 ≤ 20) = true) := decide_eq_true hin
              clear hin hcr
              generalize r.getD c 0 = x at *
              go_wp2_with (go_at_call 65; refine (l01In_is _ _ _ _ _ hd.out).mono ?_; rintro e w' ⟨rfl, rfl⟩)
              go_round
              case rel => exact ⟨c + 1, by omega, by go_num, hnext⟩
              case measure => simp [intOf]; omega
            · have hno : Hid (matB M = false) := hbad.out (wit_no hcr hin)
              have hd : Hid (decide (-20 ≤ r.getD c 0 ∧ r.getD c 0 ≤ 20) = false) := decide_eq_false hin
              clear hin hcr
              generalize r.getD c 0 = x at *
              go_wp2_with (go_at_call 65; refine (l01In_is _ _ _ _ _ hd.out).mono ?_; rintro e w' ⟨rfl, rfl⟩)
              go_ret
              exact ⟨by rw [hno.out]; rfl, rfl⟩
          · obtain rfl : c = n := by omega
            have hnext := hstep.out (hrow.out.2 (by rw [HL.out]; exact hrng.out))
            have HX := Lib.hid hnext
            clear hnext
            go_wp2
            go_round
            case rel => exact ⟨k + 1, by omega, by go_num, HX⟩
            case measure => simp [intOf]; omega
      · have hno : Hid (matB M = false) := matB_no HK.out (fun c => hlen (by rw [c.1, HN.out]))
        generalize (M.getD k []).length = l at *
        have hne : ((l : Int) != (n : Int)) = true := by simp; omega
        go_wp2
        go_ret
        exact ⟨by rw [hno.out]; rfl, rfl⟩
    · obtain rfl : k = n := by omega
      have hyes : Hid (matB M = true) := HI.out.2 ⟨⟨by rw [← HN.out]; exact hs1, by rw [← HN.out]; exact hs5⟩, by rw [← HN.out]; exact hrows.out⟩
      go_wp2
      go_ret
      exact ⟨by rw [hyes.out]; rfl, rfl⟩
end Go.Proofs.Ytgncaploccbfnaa.PW
namespace Go.Proofs.Ytgncaploccbfnaa.PW
open Go.RowKit Go.Proofs.Ytgncaploccbfnaa
open Go.Proofs.Ytgncaploccbfnaa.PM

theorem l01Is_any (m q : Value) (M : List (List Int)) (Q : List Int) (w : World) (h1 : PM.Rows w m M) (h2 : Ints w q Q) :
    Calls Try.prog 64 #[.agg #[m, q]] w fun e w' => e = .returned (.bool (isPB M Q)) ∧ Below w.heap.size w w' := by
  have g1 := fun (w' : World) (h : Below w.heap.size w w') => h1.below h
  obtain ⟨a1, c1, rfl, hl1, hm1, _⟩ := h1
  obtain ⟨a2, c2, rfl, hl2, hm2, _, hx⟩ := h2
  have hm := maxLen_le (Nat.le_trans hl2 hm2)
  have hm' := maxLen_le (Nat.le_trans hl1 hm1)
  clear hl1 hm1 hl2 hm2
  by_cases hM : matB M = true
  case neg =>
    have hM' : matB M = false := by simpa using hM
    rw [isPB_mat hM']
    have HM := Lib.hid hM'
    clear hM hM' hx
    go_enter Try.func64, Try.ntmps64
    go_wp2_with fail
    refine (l01Matrix_any _ M _ (g1 _ (by (repeat' (first | (with_reducible exact Below.refl _ _) | (with_reducible assumption) | (with_reducible refine Below.alloc ?_ ?_ _) | (with_reducible refine Below.drew ?_) | (with_reducible refine below_drewN ?_ _) | (with_reducible refine Below.setCell ?_ ?_ _) | (with_reducible refine Below.trans ?_ (Below.mono (by with_reducible assumption) ?_)) | (with_reducible exact Below.size (by with_reducible assumption)) | go_size))))).mono ?_; rw [HM.out]; rintro e w1 ⟨rfl, rfl⟩
    go_wp2_with fail
    go_ret
    exact ⟨rfl, by (repeat' (first | (with_reducible exact Below.refl _ _) | (with_reducible assumption) | (with_reducible refine Below.alloc ?_ ?_ _) | (with_reducible refine Below.drew ?_) | (with_reducible refine below_drewN ?_ _) | (with_reducible refine Below.setCell ?_ ?_ _) | (with_reducible refine Below.trans ?_ (Below.mono (by with_reducible assumption) ?_)) | (with_reducible exact Below.size (by with_reducible assumption)) | go_size))⟩
  have HM := Lib.hid hM
  clear hM
  by_cases hl : Q.length = M.length
  case neg =>
    rw [isPB_no (fun c => hl c.2.1)]
    clear hx
    have hne : ((Q.length : Int) != (M.length : Int)) = true := by simp; omega
    generalize M.length = n at *
    generalize Q.length = k at *
    clear hl
    go_enter Try.func64, Try.ntmps64
    go_wp2_with fail
    refine (l01Matrix_any _ M _ (g1 _ (by (repeat' (first | (with_reducible exact Below.refl _ _) | (with_reducible assumption) | (with_reducible refine Below.alloc ?_ ?_ _) | (with_reducible refine Below.drew ?_) | (with_reducible refine below_drewN ?_ _) | (with_reducible refine Below.setCell ?_ ?_ _) | (with_reducible refine Below.trans ?_ (Below.mono (by with_reducible assumption) ?_)) | (with_reducible exact Below.size (by with_reducible assumption)) | go_size))))).mono ?_; rw [HM.out]; rintro e w1 ⟨rfl, rfl⟩
    go_wp2_with fail
    go_ret
    exact ⟨rfl, by (repeat' (first | (with_reducible exact Below.refl _ _) | (with_reducible assumption) | (with_reducible refine Below.alloc ?_ ?_ _) | (with_reducible refine Below.drew ?_) | (with_reducible refine below_drewN ?_ _) | (with_reducible refine Below.setCell ?_ ?_ _) | (with_reducible refine Below.trans ?_ (Below.mono (by with_reducible assumption) ?_)) | (with_reducible exact Below.size (by with_reducible assumption)) | go_size))⟩
  have hQ0 : 1 ≤ Q.length := by rw [hl]; exact ((matB_iff M).1 HM.out).1.1
  have HI := Lib.hid (wit_iff 100 Q)
  have HP := Lib.hid (isPB_iff M Q)
  have HL := Lib.hid hl
  rcases hx with rfl | ⟨b2, off2, rfl, hlt2, hcell2⟩
  · simp at hQ0
  rw [← hl] at g1 ⊢
  have HC2 := Lib.hid hcell2
  clear hcell2 hl hm'
  go_enter Try.func64, Try.ntmps64
  go_wp2_with fail
  refine (l01Matrix_any _ M _ (by rw [← HL.out] at *; exact g1 _ (by (repeat' (first | (with_reducible exact Below.refl _ _) | (with_reducible assumption) | (with_reducible refine Below.alloc ?_ ?_ _) | (with_reducible refine Below.drew ?_) | (with_reducible refine below_drewN ?_ _) | (with_reducible refine Below.setCell ?_ ?_ _) | (with_reducible refine Below.trans ?_ (Below.mono (by with_reducible assumption) ?_)) | (with_reducible exact Below.size (by with_reducible assumption)) | go_size))))).mono ?_; rw [HM.out]; rintro e w1 ⟨rfl, rfl⟩
  go_wp2_with fail
  go_loop [3] (fun i => ∃ k : Nat, k ≤ Q.length ∧ i = .int .i64 k ∧ Hid (∀ j, j < k → -100 ≤ Q.getD j 0 ∧ Q.getD j 0 ≤ 100)) (fun i => Q.length - (intOf i).toNat)
  case atStart => exact ⟨0, Nat.zero_le _, rfl, fun j hj => absurd hj (Nat.not_lt_zero _)⟩
  case round =>
    obtain ⟨k, hk, rfl, hrng⟩ := hrel
    by_cases hlt3 : k < Q.length
    · have h1 := HC2.out k hlt3
      by_cases hin : -100 ≤ Q.getD k 0 ∧ Q.getD k 0 ≤ 100
      · have hnext : Hid (∀ j, j < k + 1 → -100 ≤ Q.getD j 0 ∧ Q.getD j 0 ≤ 100) := fun j hj => by
          by_cases e : j = k
          · subst e; exact hin
          · exact hrng.out j (by omega)
        have hd : Hid (decide (-100 ≤ Q.getD k 0 ∧ Q.getD k 0 ≤ 100) = true) := decide_eq_true hin
        clear hin
        generalize Q.getD k 0 = x at *
        go_wp2_with (go_at_call 65; refine (l01In_is _ _ _ _ _ hd.out).mono ?_; rintro e w' ⟨rfl, rfl⟩)
        go_round
        case rel => exact ⟨k + 1, by omega, by go_num, hnext⟩
        case measure => simp [intOf]; omega
      · have hno : Hid (isPB M Q = false) := isPB_no (fun c => by rw [wit_no hlt3 hin] at c; exact absurd c.2.2 (by simp))
        have hd : Hid (decide (-100 ≤ Q.getD k 0 ∧ Q.getD k 0 ≤ 100) = false) := decide_eq_false hin
        clear hin
        generalize Q.getD k 0 = x at *
        go_wp2_with (go_at_call 65; refine (l01In_is _ _ _ _ _ hd.out).mono ?_; rintro e w' ⟨rfl, rfl⟩)
        go_ret
        exact ⟨by rw [hno.out]; rfl, by (repeat' (first | (with_reducible exact Below.refl _ _) | (with_reducible assumption) | (with_reducible refine Below.alloc ?_ ?_ _) | (with_reducible refine Below.drew ?_) | (with_reducible refine below_drewN ?_ _) | (with_reducible refine Below.setCell ?_ ?_ _) | (with_reducible refine Below.trans ?_ (Below.mono (by with_reducible assumption) ?_)) | (with_reducible exact Below.size (by with_reducible assumption)) | go_size))⟩
    · obtain rfl : k = Q.length := by omega
      have hyes : Hid (isPB M Q = true) := HP.out.2 ⟨HM.out, HL.out, HI.out.2 hrng.out⟩
      go_wp2
      go_ret
      exact ⟨by rw [hyes.out]; rfl, by (repeat' (first | (with_reducible exact Below.refl _ _) | (with_reducible assumption) | (with_reducible refine Below.alloc ?_ ?_ _) | (with_reducible refine Below.drew ?_) | (with_reducible refine below_drewN ?_ _) | (with_reducible refine Below.setCell ?_ ?_ _) | (with_reducible refine Below.trans ?_ (Below.mono (by with_reducible assumption) ?_)) | (with_reducible exact Below.size (by with_reducible assumption)) | go_size))⟩

theorem isSquareWithin_any (v : Value) (M : List (List Int)) (w : World) (hv : PM.Rows w v M) :
    Calls Try.prog 92 #[v, .int .i64 20] w fun e w' => e = .returned (.bool (matB M)) ∧ w = w' := by
  obtain ⟨a, cap, rfl, hc, hm0, hx⟩ := hv
  have hm := maxLen_le (Nat.le_trans hc hm0)
  clear hm0 hc
  by_cases hs : 1 ≤ M.length ∧ M.length ≤ 5
  case neg =>
    rw [matB_size hs]
    clear hx
    by_cases hs1 : M.length < 1
    · obtain hs0 : M.length = 0 := by omega
      rw [hs0]
      clear hs hs1 hs0 hm
      go_enter Try.func92, Try.ntmps92
      go_wp2_with fail
      go_ret
      exact ⟨rfl, rfl⟩
    · have hs5 : 5 < M.length := by omega
      clear hs
      generalize M.length = n at *
      go_enter Try.func92, Try.ntmps92
      go_wp2_with fail
      go_ret
      exact ⟨rfl, rfl⟩
  obtain ⟨hs1, hs5⟩ := hs
  rcases hx with rfl | ⟨b, off, rfl, hlt, hcell⟩
  · simp at hs1
  have HC := Lib.hid hcell
  clear hcell
  have HI := Lib.hid (matB_iff M)
  obtain ⟨n, hn⟩ : ∃ n, n = M.length := ⟨_, rfl⟩
  rw [← hn] at hs1 hs5 hm ⊢
  have HN := Lib.hid hn
  clear hn
  go_enter Try.func92, Try.ntmps92
  go_wp2_with fail
  go_loop [7, 18] (fun _ i => ∃ k : Nat, k ≤ n ∧ i = .int .i64 k ∧ Hid (∀ j, j < k → (M.getD j []).length = n ∧ wit 20 (M.getD j []) = true)) (fun _ i => n - (intOf i).toNat)
  case atStart => exact ⟨0, Nat.zero_le _, rfl, fun j hj => absurd hj (Nat.not_lt_zero _)⟩
  case round =>
    obtain ⟨k, hk, rfl, hrows⟩ := hrel
    by_cases hlt3 : k < n
    · obtain ⟨u, hu, hU⟩ := HC.out k (by rw [← HN.out]; exact hlt3)
      have hkM : k < M.length := by rw [← HN.out]; exact hlt3
      have gU := fun (w' : World) (h : Below w.heap.size w w') => hU.below h
      obtain ⟨ra, rc, rfl, hrl, hrm, _, _⟩ := hU
      have hrm' := maxLen_le (Nat.le_trans hrl hrm)
      clear hrl hrm
      by_cases hlen : (M.getD k []).length = n
      · by_cases hw : wit 20 (M.getD k []) = true
        · have hnext : Hid (∀ j, j < k + 1 → (M.getD j []).length = n ∧ wit 20 (M.getD j []) = true) := fun j hj => by
            by_cases e : j = k
            · subst e; exact ⟨hlen, hw⟩
            · exact hrows.out j (by omega)
          have HW := Lib.hid hw
          clear hw hrows hkM
          generalize M.getD k [] = r at *
          rw [hlen] at hu hrm' gU
          clear hlen
          go_wp2_with (go_at_call 95; refine (areWithin_any _ r _ _ (gU _ (by (repeat' (first | (with_reducible exact Below.refl _ _) | (with_reducible assumption) | (with_reducible refine Below.alloc ?_ ?_ _) | (with_reducible refine Below.drew ?_) | (with_reducible refine below_drewN ?_ _) | (with_reducible refine Below.setCell ?_ ?_ _) | (with_reducible refine Below.trans ?_ (Below.mono (by with_reducible assumption) ?_)) | (with_reducible exact Below.size (by with_reducible assumption)) | go_size)))) (by omega) (by omega)).mono ?_; rw [HW.out]; rintro e w' ⟨rfl, rfl⟩)
          go_round
          case rel => exact ⟨k + 1, by omega, by go_num, hnext⟩
          case measure => simp [intOf]; omega
        · have hw' : wit 20 (M.getD k []) = false := by simpa using hw
          have hno : Hid (matB M = false) := matB_no hkM (fun c => hw c.2)
          have HW := Lib.hid hw'
          clear hw hw' hrows hkM
          generalize M.getD k [] = r at *
          rw [hlen] at hu hrm' gU
          clear hlen
          go_wp2_with (go_at_call 95; refine (areWithin_any _ r _ _ (gU _ (by (repeat' (first | (with_reducible exact Below.refl _ _) | (with_reducible assumption) | (with_reducible refine Below.alloc ?_ ?_ _) | (with_reducible refine Below.drew ?_) | (with_reducible refine below_drewN ?_ _) | (with_reducible refine Below.setCell ?_ ?_ _) | (with_reducible refine Below.trans ?_ (Below.mono (by with_reducible assumption) ?_)) | (with_reducible exact Below.size (by with_reducible assumption)) | go_size)))) (by omega) (by omega)).mono ?_; rw [HW.out]; rintro e w' ⟨rfl, rfl⟩)
          go_ret
          exact ⟨by rw [hno.out]; rfl, rfl⟩
      · have hno : Hid (matB M = false) := matB_no hkM (fun c => hlen (by rw [c.1, HN.out]))
        clear gU hrows hkM
        generalize (M.getD k []).length = l at *
        have hne : ((l : Int) != (n : Int)) = true := by simp; omega
        clear hlen
        go_wp2
        go_ret
        exact ⟨by rw [hno.out]; rfl, rfl⟩
    · obtain rfl : k = n := by omega
      have hyes : Hid (matB M = true) := HI.out.2 ⟨⟨by rw [← HN.out]; exact hs1, by rw [← HN.out]; exact hs5⟩, by rw [← HN.out]; exact hrows.out⟩
      go_wp2
      go_ret
      exact ⟨by rw [hyes.out]; rfl, rfl⟩

theorem implIsProblem_any (m q : Value) (M : List (List Int)) (Q : List Int) (w : World) (h1 : PM.Rows w m M) (h2 : Ints w q Q) :
    Calls Try.prog 69 #[.agg #[m, q]] w fun e w' => e = .returned (.bool (isPB M Q)) ∧ Below w.heap.size w w' := by
  have g1 := fun (w' : World) (h : Below w.heap.size w w') => h1.below h
  have g2 := fun (w' : World) (h : Below w.heap.size w w') => h2.below h
  obtain ⟨a1, c1, rfl, hl1, hm1, _⟩ := h1
  obtain ⟨a2, c2, rfl, hl2, hm2, _⟩ := h2
  have hm := maxLen_le (Nat.le_trans hl2 hm2)
  have hm' := maxLen_le (Nat.le_trans hl1 hm1)
  clear hl1 hm1 hl2 hm2
  by_cases hM : matB M = true
  case neg =>
    have hM' : matB M = false := by simpa using hM
    rw [isPB_mat hM']
    have HM := Lib.hid hM'
    clear hM hM'
    go_enter Try.func69, Try.ntmps69
    go_wp2_with fail
    refine (isSquareWithin_any _ M _ (g1 _ (by (repeat' (first | (with_reducible exact Below.refl _ _) | (with_reducible assumption) | (with_reducible refine Below.alloc ?_ ?_ _) | (with_reducible refine Below.drew ?_) | (with_reducible refine below_drewN ?_ _) | (with_reducible refine Below.setCell ?_ ?_ _) | (with_reducible refine Below.trans ?_ (Below.mono (by with_reducible assumption) ?_)) | (with_reducible exact Below.size (by with_reducible assumption)) | go_size))))).mono ?_; rw [HM.out]; rintro e w1 ⟨rfl, rfl⟩
    go_wp2_with fail
    go_ret
    exact ⟨rfl, by (repeat' (first | (with_reducible exact Below.refl _ _) | (with_reducible assumption) | (with_reducible refine Below.alloc ?_ ?_ _) | (with_reducible refine Below.drew ?_) | (with_reducible refine below_drewN ?_ _) | (with_reducible refine Below.setCell ?_ ?_ _) | (with_reducible refine Below.trans ?_ (Below.mono (by with_reducible assumption) ?_)) | (with_reducible exact Below.size (by with_reducible assumption)) | go_size))⟩
  have HM := Lib.hid hM
  clear hM
  by_cases hl : Q.length = M.length
  case neg =>
    rw [isPB_no (fun c => hl c.2.1)]
    have hne : ((Q.length : Int) == (M.length : Int)) = false := by simp; omega
    clear hl
    go_enter Try.func69, Try.ntmps69
    go_wp2_with fail
    refine (isSquareWithin_any _ M _ (g1 _ (by (repeat' (first | (with_reducible exact Below.refl _ _) | (with_reducible assumption) | (with_reducible refine Below.alloc ?_ ?_ _) | (with_reducible refine Below.drew ?_) | (with_reducible refine below_drewN ?_ _) | (with_reducible refine Below.setCell ?_ ?_ _) | (with_reducible refine Below.trans ?_ (Below.mono (by with_reducible assumption) ?_)) | (with_reducible exact Below.size (by with_reducible assumption)) | go_size))))).mono ?_; rw [HM.out]; rintro e w1 ⟨rfl, rfl⟩
    go_wp2_with fail
    go_ret
    exact ⟨rfl, by (repeat' (first | (with_reducible exact Below.refl _ _) | (with_reducible assumption) | (with_reducible refine Below.alloc ?_ ?_ _) | (with_reducible refine Below.drew ?_) | (with_reducible refine below_drewN ?_ _) | (with_reducible refine Below.setCell ?_ ?_ _) | (with_reducible refine Below.trans ?_ (Below.mono (by with_reducible assumption) ?_)) | (with_reducible exact Below.size (by with_reducible assumption)) | go_size))⟩
  have hans : isPB M Q = wit 100 Q := by
    cases hQ : wit 100 Q
    · exact isPB_no (fun c => by rw [hQ] at c; exact absurd c.2.2 (by simp))
    · exact (isPB_iff M Q).2 ⟨HM.out, hl, hQ⟩
  rw [hans]
  have HL := Lib.hid hl
  clear hans hm'
  rw [← hl] at g1 ⊢
  clear hl
  go_enter Try.func69, Try.ntmps69
  go_wp2_with fail
  refine (isSquareWithin_any _ M _ (by rw [← HL.out] at *; exact g1 _ (by (repeat' (first | (with_reducible exact Below.refl _ _) | (with_reducible assumption) | (with_reducible refine Below.alloc ?_ ?_ _) | (with_reducible refine Below.drew ?_) | (with_reducible refine below_drewN ?_ _) | (with_reducible refine Below.setCell ?_ ?_ _) | (with_reducible refine Below.trans ?_ (Below.mono (by with_reducible assumption) ?_)) | (with_reducible exact Below.size (by with_reducible assumption)) | go_size))))).mono ?_; rw [HM.out]; rintro e w1 ⟨rfl, rfl⟩
  go_wp2_with fail
  refine (areWithin_any _ Q _ _ (g2 _ (by (repeat' (first | (with_reducible exact Below.refl _ _) | (with_reducible assumption) | (with_reducible refine Below.alloc ?_ ?_ _) | (with_reducible refine Below.drew ?_) | (with_reducible refine below_drewN ?_ _) | (with_reducible refine Below.setCell ?_ ?_ _) | (with_reducible refine Below.trans ?_ (Below.mono (by with_reducible assumption) ?_)) | (with_reducible exact Below.size (by with_reducible assumption)) | go_size)))) (by omega) (by omega)).mono ?_; rintro e w1 ⟨rfl, rfl⟩
  go_wp2_with fail
  go_ret
  exact ⟨rfl, by (repeat' (first | (with_reducible exact Below.refl _ _) | (with_reducible assumption) | (with_reducible refine Below.alloc ?_ ?_ _) | (with_reducible refine Below.drew ?_) | (with_reducible refine below_drewN ?_ _) | (with_reducible refine Below.setCell ?_ ?_ _) | (with_reducible refine Below.trans ?_ (Below.mono (by with_reducible assumption) ?_)) | (with_reducible exact Below.size (by with_reducible assumption)) | go_size))⟩
end Go.Proofs.Ytgncaploccbfnaa.PW
