/-
  What the frame of a law of a game wants (FRAME kind game).
-/
import Derived.Test.YtnefglpcbekmhaaPMem
import Derived.Test.YtnefglpcbekmhaaPFrame
namespace Go.Proofs.Ytnefglpcbekmhaa
open Go.ChangeShapes Go.WideShapes Go.ChangeAt Go.RowKit Go.Joins Go.Deep
open Go.Proofs.Ytnefglpcbekmhaa.PM
theorem cellsGame : Try.prog.cellsOf 40 = 2 := by kernel_rfl
end Go.Proofs.Ytnefglpcbekmhaa
