/-
  What the frame of a law of a program wants (FRAME kind prog).
-/
import Derived.Test.YtmmnhdefencelaaPFrame
namespace Go.Proofs.Ytmmnhdefencelaa
theorem cellsProg : Try.prog.cellsOf 56 = 4 := by kernel_rfl
end Go.Proofs.Ytmmnhdefencelaa
