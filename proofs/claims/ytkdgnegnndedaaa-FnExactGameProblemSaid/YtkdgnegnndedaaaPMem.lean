/-
  Words for what lies in memory: slices of numbers, slices of such slices, as lists; and how they last while nothing older is written.
-/
import Derived.Test.YtkdgnegnndedaaaChecked
import Derived.WalkKit
import Derived.ProofKit
import Derived.WalkLawsBesides
import Derived.WalkSpells
import Derived.IntWalk
import Derived.LoopTactic
import Derived.RegionTactic
import Derived.BigRegion
import Derived.BigQuiet
import Derived.Deep.QuietTactic
import Derived.Below
import Derived.Handy
import Derived.Outline
import Derived.Lib.Hide
import Derived.Deep.RegionHeld3
import Derived.Deep.RegionWith
import Derived.Deep.DeepCutAuto
import Derived.Deep.LoopGhost
import Derived.Deep.OwnRows
import Derived.Deep.Light
import Derived.Deep.Matrix
namespace Go.Proofs.Ytkdgnegnndedaaa.PM
open Go.RowKit Go.Proofs.Ytkdgnegnndedaaa

theorem ret_int {k : IntKind} {a b : Int} (h : a = b) : Ending.returned (.int k a) = .returned (.int k b) := by rw [h]
theorem ret_bool {a b : Bool} (h : a = b) : Ending.returned (.bool a) = .returned (.bool b) := by rw [h]
theorem bcell {W w1 : World} (hb : Below W.heap.size W w1) : (∀ b o, b < W.heap.size → w1.cell? ⟨b, o, none⟩ = W.cell? ⟨b, o, none⟩) ∧ (∀ b o, b < W.heap.size → w1.frozen? ⟨b, o, none⟩ = W.frozen? ⟨b, o, none⟩) :=
  ⟨fun b o h => hb.cell (p := ⟨b, o, none⟩) h, fun b o h => hb.frozen (p := ⟨b, o, none⟩) h⟩
theorem bcellG {W0 W w1 : World} (hb : Below W.heap.size W w1) (h0 : Below W0.heap.size W0 W) : (∀ b o, b < W0.heap.size → w1.cell? ⟨b, o, none⟩ = W0.cell? ⟨b, o, none⟩) ∧ (∀ b o, b < W0.heap.size → w1.frozen? ⟨b, o, none⟩ = W0.frozen? ⟨b, o, none⟩) :=
  bcell (h0.trans (hb.mono h0.size))

/-- A number of 64 bits. -/
def I64 (x : Int) : Prop := -9223372036854775808 ≤ x ∧ x ≤ 9223372036854775807

/-- The numbers xs lie in w from the address on. -/
def CellsAt (w : World) (b off : Nat) (xs : List Int) : Prop := ∀ i, i < xs.length → w.cell? ⟨b, off + i, none⟩ = some (.int .i64 (xs.getD i 0))

theorem maxLen_le {n : Nat} (h : n ≤ maxLen) : n ≤ 9223372036854775807 := by unfold maxLen at h; omega

/-- v is a slice of the numbers xs in w. -/
def Ints (w : World) (v : Value) (xs : List Int) : Prop :=
  ∃ (a : Option Addr) (cap : Nat), v = .slice a xs.length cap ∧ xs.length ≤ cap ∧ cap ≤ maxLen ∧ (∀ x ∈ xs, I64 x) ∧
    (xs = [] ∨ ∃ b off, a = some ⟨b, off, none⟩ ∧ b < w.heap.size ∧ CellsAt w b off xs)

/-- v is a slice of such slices. -/
def Rows (w : World) (v : Value) (xss : List (List Int)) : Prop :=
  ∃ (a : Option Addr) (cap : Nat), v = .slice a xss.length cap ∧ xss.length ≤ cap ∧ cap ≤ maxLen ∧
    (xss = [] ∨ ∃ b off, a = some ⟨b, off, none⟩ ∧ b < w.heap.size ∧ ∀ i, i < xss.length → ∃ u, w.cell? ⟨b, off + i, none⟩ = some u ∧ Ints w u (xss.getD i []))

theorem Ints.below {w w' : World} {v : Value} {xs : List Int} (h : Ints w v xs) (hb : Below w.heap.size w w') : Ints w' v xs := by
  obtain ⟨a, cap, h1, h2, h3, h4, h5⟩ := h
  refine ⟨a, cap, h1, h2, h3, h4, ?_⟩
  rcases h5 with h5 | ⟨b, off, e, hlt, hc⟩
  · exact .inl h5
  · exact .inr ⟨b, off, e, Nat.lt_of_lt_of_le hlt hb.size, fun i hi => (hb.cell (p := ⟨b, off + i, none⟩) hlt).trans (hc i hi)⟩

theorem Rows.below {w w' : World} {v : Value} {xss : List (List Int)} (h : Rows w v xss) (hb : Below w.heap.size w w') : Rows w' v xss := by
  obtain ⟨a, cap, h1, h2, h3, h5⟩ := h
  refine ⟨a, cap, h1, h2, h3, ?_⟩
  rcases h5 with h5 | ⟨b, off, e, hlt, hc⟩
  · exact .inl h5
  · refine .inr ⟨b, off, e, Nat.lt_of_lt_of_le hlt hb.size, fun i hi => ?_⟩
    obtain ⟨u, hu, hI⟩ := hc i hi
    exact ⟨u, (hb.cell (p := ⟨b, off + i, none⟩) hlt).trans hu, hI.below hb⟩

/-- A new block of numbers. -/
def IntBlk (w : World) (b : Nat) (xs : List Int) : Prop := w.rowIs b 2 xs.length (fun i => .int .i64 (xs.getD i 0))

theorem IntBlk.ints {w : World} {b : Nat} {xs : List Int} (h : IntBlk w b xs) (hx : ∀ x ∈ xs, I64 x) (hm : xs.length ≤ maxLen) : Ints w (.slice (some ⟨b, 0, none⟩) xs.length xs.length) xs := by
  refine ⟨_, _, rfl, Nat.le_refl _, hm, hx, .inr ⟨b, 0, rfl, h.lt, fun i hi => ?_⟩⟩
  rw [Nat.zero_add]
  exact h.cell hi

/-- What a row of numbers needs, and what all rows need together. -/
def tot (xss : List (List Int)) : Nat := xss.length + (xss.map List.length).sum
def szI (n : Nat) (left : Int) : Int := if (n : Int) ≤ left then left - n else -1
def szR (xss : List (List Int)) (left : Int) : Int := if (tot xss : Int) ≤ left then left - tot xss else -1
def szP (m : List (List Int)) (q : List Int) (left : Int) : Int := if (tot m : Int) + q.length ≤ left then left - tot m - q.length else -1

/-- The lengths of the first k rows. -/
def pre (xss : List (List Int)) (k : Nat) : Nat := ((xss.take k).map List.length).sum
theorem pre_zero (xss : List (List Int)) : pre xss 0 = 0 := by simp [pre]
theorem pre_succ (xss : List (List Int)) (k : Nat) (h : k < xss.length) : pre xss (k + 1) = pre xss k + (xss.getD k []).length := by
  unfold pre
  rw [List.take_succ_eq_append_getElem h, List.map_append, List.sum_append]
  simp [h]
theorem pre_all (xss : List (List Int)) : pre xss xss.length = (xss.map List.length).sum := by simp [pre]
theorem pre_le (xss : List (List Int)) (k : Nat) : pre xss k ≤ (xss.map List.length).sum := by
  unfold pre
  induction xss generalizing k with
  | nil => simp
  | cons x l ih =>
    cases k with
    | zero => simp
    | succ k => simp only [List.take_succ_cons, List.map_cons, List.sum_cons]; have := ih k; omega
end Go.Proofs.Ytkdgnegnndedaaa.PM
