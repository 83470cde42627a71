/-
  What the frame of a law of a program wants (FRAME kind prog).
-/
import Derived.Test.YtoglmkjmnknbbaaPFrame
namespace Go.Proofs.Ytoglmkjmnknbbaa
theorem cellsProg : Try.prog.cellsOf 68 = 4 := by kernel_rfl
end Go.Proofs.Ytoglmkjmnknbbaa
