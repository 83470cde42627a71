/-
  The listed error of this seat: what the condition gives the walks, the world that meets it, the variable read again.
-/
import Derived.Test.YthnefjllijoobaaDoorPFrame
import Derived.Test.YthnefjllijoobaaDoorPGlob
import Derived.Test.YthnefjllijoobaaDoorTie
import Derived.Test.YthnefjllijoobaaDoorCards
import Derived.LaidMore
import Derived.Stop.LaidErr
import Derived.Stop.Joined
import Derived.SevenTiedAt
namespace Go.Proofs.YthnefjllijoobaaDoor
open Go.ChangeShapes Go.WideShapes Go.ChangeAt Go.RowKit Go.Joins Go.Deep
open Go.Proofs.YthnefjllijoobaaDoor.PM

abbrev laidL : List (String × DataW Unit) := [("loop.example/g01343/impl.errNotBasic", Rows.laid_loop_example_g01343_impl_errNotBasic)]
theorem gErr : Tryd.prog.globalNamed "loop.example/g01343/impl.errNotBasic" = some 0 := by kernel_rfl
theorem tErr : (Tryd.prog.globals[0]?).map (·.type) = some 87 := by kernel_rfl
theorem uErr : Tryd.prog.underlying 87 = some (.interface #[("Error", 106)]) := by kernel_rfl
theorem star : "*" ++ "errors.errorString" = "*errors.errorString" := by decide
theorem rowErr (u : TypeId) (h : Tryd.prog.typeName? 3 u = some "*errors.errorString") : u = 105 :=
  typeName_ptr_named (nm := "errors.errorString") (by rw [star]; kernel_rfl) (by kernel_rfl) (by decide) u (by rw [star]; exact h)

/-- The heap that the door's run leaves meets the condition. -/
theorem door_met (os : Os) (args : Array Value) : laidMetH Tryd.prog laidL ((World.doorLaid Tryd.prog 64 os).forCall (fun _ _ => 0) ⟨#[], args, []⟩).memory :=
  laidMetH_of_parts3 (fuel := 8) (laidMet_of_run' 8 (by kernel_rfl) (by kernel_rfl)) (by kernel_rfl) (by kernel_rfl)

/-- What the condition gives the walks: the variable's cell. -/
theorem of_laid {W : World} (h : laidMetH Tryd.prog laidL W) : ∃ a : Addr, W.var? Tryd.prog "loop.example/g01343/impl.errNotBasic" = some #[.iface 105 (.pointer (some a))] ∧
    W.cell? ⟨0, 0, none⟩ = some (.iface 105 (.pointer (some a))) := by
  rw [MakeChecks.laidMetH_plain _ _ _ (by kernel_rfl)] at h
  obtain ⟨a, s, hv, _, _, _⟩ := laid_sentinel (ms := #[("Error", 106)]) h gErr tErr uErr rowErr Tryd.underlying105 Tryd.underlying123 rfl rfl Tryd.underlying9 (by kernel_rfl) (by kernel_rfl)
  exact ⟨a, hv, by simpa using World.var?_cell gErr hv 0⟩
theorem var?_below {P : Program} {W W' : World} {n : String} {cs : Array Value} (hb : Below W.heap.size W W') (h : W.var? P n = some cs) : W'.var? P n = some cs := by
  unfold World.var? at h ⊢
  cases hg : P.globalNamed n with
  | none => simp [hg] at h
  | some g =>
    simp only [hg, Option.bind_some] at h ⊢
    have hlt : g < W.heap.size := by
      rcases Nat.lt_or_ge g W.heap.size with h' | h'
      · exact h'
      · simp [Array.getElem?_eq_none h'] at h
    rw [hb.block g hlt]
    exact h
end Go.Proofs.YthnefjllijoobaaDoor
