/-
  Walks: an orientation mirrored by a set of directions, in the program.
-/
import Derived.Test.YtoglmkjmnknbbaaCOmw
import Derived.Deep.WholeRow
namespace Go.Proofs.Ytoglmkjmnknbbaa.PW
open Go.RowKit Go.Proofs.Ytoglmkjmnknbbaa
open Go.Proofs.Ytoglmkjmnknbbaa.PM

def mirL (O : List Int) (d : Int) : List Int := (List.range O.length).map fun j => bits BinOp.xor IntKind.i64 (O.getD j 0) d
def mirOut (D : Int) (O : List Int) (d : Int) : (Int × List Int) × Int := if cdOut D O [d] = 0 then ((D, mirL O d), 0) else ((0, []), cdOut D O [d])
theorem mirOut_ok {D : Int} {O : List Int} {s : Int} (h : cdOut D O [s] = 0) : mirOut D O s = ((D, mirL O s), 0) := by unfold mirOut; rw [if_pos h]
theorem mirOut_no {D : Int} {O : List Int} {s : Int} (h : cdOut D O [s] ≠ 0) : mirOut D O s = ((0, []), cdOut D O [s]) := by unfold mirOut; rw [if_neg h]
theorem fine_mir (D : Int) (O : List Int) (s : Int) : FineC (mirOut D O s).1 := by
  by_cases h : cdOut D O [s] = 0
  · rw [mirOut_ok h]
    obtain ⟨n, rfl, hc, hn1, hn5, hl, _, h0, h1, h2⟩ := ones_cb h
    clear h
    have := pow_le_32 hn5
    refine ⟨fun x hx => ?_, by show (mirL O s).length ≤ _; simp [mirL]; omega⟩
    obtain ⟨j, hj, rfl⟩ := List.mem_map.1 hx
    exact ⟨bits_lo_i64 _ _ _, bits_hi_i64 _ _ _⟩
  · rw [mirOut_no h]
    exact ⟨fineI_nil⟩
/-- The array while it is mirrored: the first k vertices have been. -/
def mirK (F : Nat → Int) (d : Int) (k j : Nat) : Int := if j < k then bits BinOp.xor IntKind.i64 (F j) d else F j
theorem mirK_zero (F : Nat → Int) (d : Int) : mirK F d 0 = F := by funext j; simp [mirK]
theorem mirK_at (F : Nat → Int) (d : Int) (k : Nat) : mirK F d k k = F k := by simp [mirK]
theorem mirK_step (F : Nat → Int) (d : Int) (k j : Nat) : (if j = k then bits BinOp.xor IntKind.i64 (F k) d else mirK F d k j) = mirK F d (k + 1) j := by
  unfold mirK
  by_cases h : j = k
  · subst h; rw [if_pos rfl, if_pos (by omega)]
  · rw [if_neg h]
    by_cases h3 : j < k
    · rw [if_pos h3, if_pos (by omega)]
    · rw [if_neg h3, if_neg (by omega)]

end Go.Proofs.Ytoglmkjmnknbbaa.PW
