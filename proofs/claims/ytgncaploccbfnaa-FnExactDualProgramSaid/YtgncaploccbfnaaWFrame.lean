/-
  What the frame of a law of a program wants (FRAME kind prog).
-/
import Derived.Test.YtgncaploccbfnaaPFrame
namespace Go.Proofs.Ytgncaploccbfnaa
theorem cellsProg : Try.prog.cellsOf 51 = 4 := by kernel_rfl
end Go.Proofs.Ytgncaploccbfnaa
