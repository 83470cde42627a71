/-
  What the frame of a law of a game wants (FRAME kind game).
-/
import Derived.Test.YtkdgnegnndedaaaPMem
import Derived.Test.YtkdgnegnndedaaaPFrame
namespace Go.Proofs.Ytkdgnegnndedaaa
open Go.ChangeShapes Go.WideShapes Go.ChangeAt Go.RowKit Go.Joins Go.Deep
open Go.Proofs.Ytkdgnegnndedaaa.PM
theorem cellsGame : Try.prog.cellsOf 40 = 2 := by kernel_rfl
end Go.Proofs.Ytkdgnegnndedaaa
