/-
  Walks: the code of an orientation with some vertices, in the model.
-/
import Derived.Test.YtoglmkjmnknbbaaCSnk
import Derived.Test.YtoglmkjmnknbbaaCAns
namespace Go.Proofs.Ytoglmkjmnknbbaa.PW
open Go.RowKit Go.Proofs.Ytoglmkjmnknbbaa
open Go.Proofs.Ytoglmkjmnknbbaa.PM

def inC (O : List Int) (x : Int) : Prop := 0 ≤ x ∧ x ≤ (O.length : Int) - 1
instance (O : List Int) (x : Int) : Decidable (inC O x) := by unfold inC; infer_instance
/-- A list of numbers as it lies in memory (nothing is asked of the numbers). -/
def Cel (w : World) (v : Value) (L : List Int) : Prop := ∃ b off c, v = .slice (some ⟨b, off, none⟩) L.length c ∧ b < w.heap.size ∧ ∀ k, k < L.length → w.cell? ⟨b, off + k, none⟩ = some (.int .i64 (L.getD k 0))
theorem cel_one (w : World) (x : Int) (t : TypeId) (g : Nat) (hg : g = w.heap.size) : Cel (w.alloc (.cells #[.int .i64 x] t)) (.slice (some ⟨g, 0, none⟩) 1 1) [x] :=
  ⟨_, 0, 1, rfl, by subst hg; simp, fun k hk => by subst hg; obtain rfl : k = 0 := (by simpa using hk); rw [World.cell?_alloc_new]; rfl⟩
theorem cel_two (w : World) (x y : Int) (t : TypeId) (g : Nat) (hg : g = w.heap.size) : Cel (w.alloc (.cells #[.int .i64 x, .int .i64 y] t)) (.slice (some ⟨g, 0, none⟩) 2 2) [x, y] :=
  ⟨_, 0, 2, rfl, by subst hg; simp, fun k hk => by
    subst hg
    have hk' : k < 2 := by simpa using hk
    obtain rfl | rfl : k = 0 ∨ k = 1 := by omega
    · rw [World.cell?_alloc_new]; rfl
    · rw [World.cell?_alloc_new]; rfl⟩
def cdOut (D : Int) (O L : List Int) : Int := if isCB D O = true then (if ∀ k, k < L.length → inC O (L.getD k 0) then 0 else 2) else 1

end Go.Proofs.Ytoglmkjmnknbbaa.PW
